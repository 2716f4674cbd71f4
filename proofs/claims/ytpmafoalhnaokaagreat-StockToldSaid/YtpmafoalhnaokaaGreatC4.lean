/- HA1 HA2 P15 P16 P17 P22 -/
import Derived.Test.YtpmafoalhnaokaaGreatC3
import Derived.Sort.MapsRangeIn
import Derived.Laws.CopyOwn
set_option maxRecDepth 100000
set_option maxHeartbeats 16000000
set_option linter.unusedVariables false
set_option linter.unusedSectionVars false
open Go.IntKind(i64)
open Go.Lib(hid)
open Go.Proofs.Tryz
open Go.Value(int)
namespace Go.Proofs.YtpmafoalhnaokaaGreat
section
open Go.RowKit Go.Maps
open Go.Sort (grow)
attribute [local go_sem] Oper.semAt_some
noncomputable def AG:List Lit:=[eH 0 4,eH 0 5,eH 1 5,eH 2 0]
noncomputable def DT:DataW Unit:=.map [(eH 0 4,.lit (.int .i64 2)),(eH 0 5,.lit (.int .i64 2)),(eH 1 5,.lit (.int .i64 4)),(eH 2 0,.lit (.int .i64 4))]
theorem Zd:(eH 0 4).sameKey (eH 0 4)=true:=zk
theorem Ze:(eH 0 4).sameKey (eH 0 5)=false:=zk
theorem Zf:(eH 0 4).sameKey (eH 1 5)=false:=zk
theorem Zg:(eH 0 4).sameKey (eH 2 0)=false:=zk
theorem Zh:(eH 0 5).sameKey (eH 0 4)=false:=zk
theorem Zi:(eH 0 5).sameKey (eH 0 5)=true:=zk
theorem Zj:(eH 0 5).sameKey (eH 1 5)=false:=zk
theorem Zk:(eH 0 5).sameKey (eH 2 0)=false:=zk
theorem Zl:(eH 1 5).sameKey (eH 0 4)=false:=zk
theorem Zm:(eH 1 5).sameKey (eH 0 5)=false:=zk
theorem Zn:(eH 1 5).sameKey (eH 1 5)=true:=zk
theorem Zo:(eH 1 5).sameKey (eH 2 0)=false:=zk
theorem Zp:(eH 2 0).sameKey (eH 0 4)=false:=zk
theorem Zq:(eH 2 0).sameKey (eH 0 5)=false:=zk
theorem Zt:(eH 2 0).sameKey (eH 1 5)=false:=zk
theorem Zu:(eH 2 0).sameKey (eH 2 0)=true:=zk
theorem Pc:DT.atKey (eH 0 4) (.map [])=.lit (.int .i64 2):=zk
theorem Pd:DT.atKey (eH 0 5) (.map [])=.lit (.int .i64 2):=zk
theorem Pe:DT.atKey (eH 1 5) (.map [])=.lit (.int .i64 4):=zk
theorem Pl:DT.atKey (eH 2 0) (.map [])=.lit (.int .i64 4):=zk
theorem RM(kl:Lit)(h:Maps.has DT kl=true):kl∈AG:=by
 unfold DT Maps.has at h
 simp only[List.any_cons,List.any_nil,Bool.or_eq_true,Bool.or_false] at h
 unfold AG
 rcases h with h|h|h|h <;> (have:=WideAt.sameKey_eq h;subst this;simp)
theorem vi:Maps.has DT (eH 0 4)=true:=zk
theorem vj:Maps.has DT (eH 0 5)=true:=zk
theorem vm:Maps.has DT (eH 1 5)=true:=zk
theorem vn:Maps.has DT (eH 2 0)=true:=zk
theorem bp(x c:Value)(kl:Lit)(y:DataW Unit × List MemPlace)(hkey:keyOf prog 143 x=some kl)(hl:kl∈AG)(hR:plainElem prog 3 c=some y)(hat:∀zd,DT.atKey kl zd=y.1):
 (kl=eH 0 4∧x=.agg #[int i64 0,int i64 4]∧c=int i64 2)∨(kl=eH 0 5∧x=.agg #[int i64 0,int i64 5]∧c=int i64 2)∨(kl=eH 1 5∧x=.agg #[int i64 1,int i64 5]∧c=int i64 4)∨(kl=eH 2 0∧x=.agg #[int i64 2,int i64 0]∧c=int i64 4):=by
 obtain⟨a,rfl,rfl,-⟩:=plainElem_int_inv underlying3 hR
 have h0:=hat (.map [])
 unfold AG at hl
 simp only[List.mem_cons,List.not_mem_nil,or_false] at hl
 rcases hl with hl|hl|hl|hl
 ·refine .inl ?_
  rw[hl] at h0 hkey
  rw[Pc] at h0
  injection h0 with h0
  injection h0 with _ h0
  exact⟨hl,dR.inj hkey yW,by rw[h0]⟩
 ·refine .inr (.inl ?_)
  rw[hl] at h0 hkey
  rw[Pd] at h0
  injection h0 with h0
  injection h0 with _ h0
  exact⟨hl,dR.inj hkey An,by rw[h0]⟩
 ·refine .inr (.inr (.inl ?_))
  rw[hl] at h0 hkey
  rw[Pe] at h0
  injection h0 with h0
  injection h0 with _ h0
  exact⟨hl,dR.inj hkey As,by rw[h0]⟩
 ·refine .inr (.inr (.inr ?_))
  rw[hl] at h0 hkey
  rw[Pl] at h0
  injection h0 with h0
  injection h0 with _ h0
  exact⟨hl,dR.inj hkey AD,by rw[h0]⟩
def P6(a b:Bool):Int:=max (if a then 0 else 2) (if b then 0 else 2)
def Ry(a:Bool):Int:=if a then 0 else 4
theorem tP(G M C:Nat)(A:Option Addr)(p:Nat)(w:World)(hc:pQ (Tb 1 G M C) A w):CallsIn FF 0 prog 70 #[.agg (aA (Tb 1 G M C) A (ak (Tb 1 G M C)).length p)] w fun e w'=>e=.returned (.tuple #[int i64 0,int i64 2])∧Below w.heap.size w w':=by
 have HR:Hid (∀W,Below w.heap.size w W→CallsIn FF 0 prog 96 #[.agg (aA (Tb 1 G M C) A (ak (Tb 1 G M C)).length p)] W fun e w'=>∃M n,e=.returned (.tuple #[int i64 4,.map (some M)])∧n≤12∧AZ w' M n DT∧W.heap.size≤M∧Below W.heap.size W w'):=hid fun W hW=>by
  have:=YX (Tb 1 G M C) (ko 1 zD G M C) (fC 1 G M C) (by rw[lG];decide) (vT G M C) rfl eH (oy G M C) A p W (hc.below hW)
  rw[lG,a6] at this
  exact this
 obtain⟨n,hn⟩:∃n,n=(ak (Tb 1 G M C)).length:=zE
 rw[← hn] at HR⊢
 clear hn hc
 simp only[Tb,aA] at HR⊢
 obtain⟨w1,hw1⟩:∃w1,w1=w.alloc (.cells #[int i64 10,int i64 1,.slice (some ⟨G,0,none⟩) 2 2,.slice (some ⟨M,0,none⟩) 4 4,.slice (some ⟨C,0,none⟩) 2 2,.slice A n p] 75):=zE
 have B1:Hid (Below w.heap.size w w1):=hid (by rw[hw1];exact bw)
 have C1:Hid (Whole w1 w.heap.size 75 #[int i64 10,int i64 1,.slice (some ⟨G,0,none⟩) 2 2,.slice (some ⟨M,0,none⟩) 4 4,.slice (some ⟨C,0,none⟩) 2 2,.slice A n p]):=hid (by rw[hw1];exact Whole.new _ _ _)
 have ku:=hid hw1
 clear hw1
 gi_enter func70,ntmps70
 gi_wp2_with (first
  | (gi_at_call 96;rw[← ku.out];refine(HR.out w1 B1.out).mono ?_;rintro e w2 ⟨Mp,nn,rfl,hn2,hO2,hM2,hb2⟩;have aas:=hO2.lt;have O2:=hid (hO2.alloc (.cells #[int i64 0,int i64 0,int i64 0] 88));clear hO2)
  | (gi_at_range;refine wpListIn_range_own _ rfl _ 139 rfl 143 3 dR underlying139 _ Mp nn _ rfl O2.out ?_;intro w3 hrg3 hg3 hs3))
 go_frame
 simp only[World.size_alloc]
 have C3:Hid (Whole w3 w.heap.size 75 #[int i64 10,int i64 1,.slice (some ⟨G,0,none⟩) 2 2,.slice (some ⟨M,0,none⟩) 4 4,.slice (some ⟨C,0,none⟩) 2 2,.slice A n p]):=hid (((C1.out.below hb2 C1.out.lt).alloc _).grown hg3 zs)
 have N3:Hid (Whole w3 w2.heap.size 88 #[int i64 0,int i64 0,int i64 0]):=hid ((Whole.new w2 _ _).grown hg3 zs)
 have HB3:Hid (Below w.heap.size w w3):=hid ((Below.al (Below.next B1.out hb2) _).trans (below_grown hg3 (by have:=(Below.next B1.out hb2).size;simp;omega) (fun g hg=>by cases hg)))
 have hM0:=hM2
 have hMl:=O2.out.lt
 have Px:=hb2.size
 have H9:=C1.out.lt
 simp only[World.size_alloc] at hs3 hMl hrg3
 have aar:Mp<w2.heap.size+1:=hMl
 have HRG:=hid hrg3
 clear hrg3 hg3 O2 HR C1 B1 hb2 ku
 gi_loopw [] (fun wr=>∃ (left:Lit→Bool) (cnt:Nat),wr.ranges prog 143 (plainElem prog 3) Mp (w2.heap.size+1) nn DT left cnt∧(∀kl,left kl=true→kl∈AG)∧Hid (Whole wr w2.heap.size 88 #[int i64 (P6 (left (eH 0 4)) (left (eH 0 5))),int i64 (Ry (left (eH 1 5))),int i64 (Ry (left (eH 2 0)))]∧Whole wr w.heap.size 75 #[int i64 10,int i64 1,.slice (some ⟨G,0,none⟩) 2 2,.slice (some ⟨M,0,none⟩) 4 4,.slice (some ⟨C,0,none⟩) 2 2,.slice A n p]∧Below w.heap.size w wr))
  (fun wr=>wr.rangeLeft Mp (w2.heap.size+1))
 case atStart=>
  refine⟨Maps.has DT,Maps.size DT,HRG.out,RM,hid ⟨?_,C3.out,HB3.out⟩⟩
  rw[vi,vj,vm,vn]
  exact N3.out
 case round=>
  obtain⟨left,cnt,hrg,hks,hW⟩:=hrel
  gi_wp2_with (gi_at_next;refine wpListIn_next_ranges _ rfl _ rfl 143 dR (plainElem prog 3) id id (fun key _ _=>⟨key,rfl⟩) (fun v _ _=>⟨v,rfl⟩) Mp (w2.heap.size+1) nn _ _ _ rfl hrg ?_ ?_)
  ·intro hc0 hl0
   have N9:Whole wr w2.heap.size 88 #[int i64 2,int i64 4,int i64 4]:=by
    have:=hW.out.1
    rw[hl0,hl0,hl0,hl0] at this
    exact this
   have sB:=hid (XC w2.heap.size wr (N9.cell 0) (N9.cell 1))
   have d0:wr.cell? ⟨w.heap.size,0,none⟩=some (int i64 10):=hW.out.2.1.cell 0
   have d1:wr.cell? ⟨w.heap.size,1,none⟩=some (int i64 1):=hW.out.2.1.cell 1
   have d2:wr.cell? ⟨w.heap.size,2,none⟩=some (.slice (some ⟨G,0,none⟩) 2 2):=hW.out.2.1.cell 2
   have d3:wr.cell? ⟨w.heap.size,3,none⟩=some (.slice (some ⟨M,0,none⟩) 4 4):=hW.out.2.1.cell 3
   have d4:wr.cell? ⟨w.heap.size,4,none⟩=some (.slice (some ⟨C,0,none⟩) 2 2):=hW.out.2.1.cell 4
   have d5:wr.cell? ⟨w.heap.size,5,none⟩=some (.slice A n p):=hW.out.2.1.cell 5
   have uV:=hW.out.2.2
   clear N9 hl0 hrg hks
   gi_wp2_with (gi_at_call 97;refine sB.out.mono ?_;rintro e w5 ⟨rfl,rfl⟩)
   go_ret2
   exact⟨rfl,uV⟩
  ·intro x c kl yd yp w4 Gw hkey hlk hv hat wu Yo hg4 hs4 hen
   have hcase:=bp x c kl (yd,yp) hkey (hks kl hlk) hv hat
   have N4:=hid (hW.out.1.grown hg4 zs)
   have C4:=hid (hW.out.2.1.grown hg4 zm)
   have D6:Hid (Below w.heap.size w w4):=hid (hW.out.2.2.trans (below_grown hg4 (by have:=hW.out.2.1.lt;omega) (fun g hg=>by cases hg;omega)))
   have hn4:=N4.out.lt
   obtain⟨b0,hb0⟩:∃b,b=left (eH 0 4):=zE
   obtain⟨b1,hb1⟩:∃b,b=left (eH 0 5):=zE
   obtain⟨b2,hb2⟩:∃b,b=left (eH 1 5):=zE
   obtain⟨b3,hb3⟩:∃b,b=left (eH 2 0):=zE
   rw[← hb0,← hb1,← hb2,← hb3] at N4
   obtain⟨m0,hm0⟩:∃m,m=P6 b0 b1:=zE
   obtain⟨m1,hm1⟩:∃m,m=Ry b2:=zE
   obtain⟨m2,hm2⟩:∃m,m=Ry b3:=zE
   rw[← hm0,← hm1,← hm2] at N4
   have Ek:Hid (wr.rangeLeft Mp (w2.heap.size+1)=cnt):=hid hrg.left_eq
   have fz:=hid hks
   have HB:=hid (And.intro hb0 (And.intro hb1 (And.intro hb2 (And.intro hb3 (And.intro hm0 (And.intro hm1 hm2))))))
   clear hks hrg hkey hv hat hg4 hW hb0 hb1 hb2 hb3 hm0 hm1 hm2
   rcases hcase with⟨hkl,rfl,rfl⟩|⟨hkl,rfl,rfl⟩|⟨hkl,rfl,rfl⟩|⟨hkl,rfl,rfl⟩
   ·rw[hkl] at wu hlk
    have JK:=hid wu
    have fL:=hid hlk
    clear wu hlk hkl
    obtain⟨W5,nJ⟩:∃W5,W5=w4.alloc (.cells #[int i64 0,int i64 4] 143):=zE
    have X5:Whole W5 wr.heap.size 143 #[int i64 0,int i64 4]:=by rw[nJ,← hs4];exact Whole.new _ _ _
    have N5:=hid (by rw[nJ];exact N4.out.alloc _:Whole W5 w2.heap.size 88 #[int i64 m0,int i64 m1,int i64 m2])
    have C5:=hid (by rw[nJ];exact C4.out.alloc _:Whole W5 w.heap.size 75 #[int i64 10,int i64 1,.slice (some ⟨G,0,none⟩) 2 2,.slice (some ⟨M,0,none⟩) 4 4,.slice (some ⟨C,0,none⟩) 2 2,.slice A n p])
    have FX:Hid (Below w.heap.size w W5):=hid (by rw[nJ];exact Below.al D6.out _)
    have R5:=hid (by rw[nJ];exact JK.out.alloc _:W5.ranges prog 143 (plainElem prog 3) Mp (w2.heap.size+1) nn DT (fun z=>left z && !z.sameKey (eH 0 4)) Gw)
    have x0:∀d os,(grow (redrawn W5 d) os).cell? ⟨wr.heap.size,0,none⟩=some (int i64 0):=cell_regrown (X5.cell 0)
    have q0:∀d os,(grow (redrawn W5 d) os).cell? ⟨w2.heap.size,0,none⟩=some (int i64 m0):=cell_regrown (N5.out.cell 0)
    have WV:=hid nJ
    clear nJ X5
    gi_wp2
    rw[← WV.out]
    refine aJ 8 rfl zk zk ?_
    repeat (quiet_step_in (fail))
    refine wpQuietIn_nil ?_
    rintro w' ⟨⟨dq,osq⟩,rfl⟩
    have bg:=below_regrown W5 dq osq
    clear x0 q0
    have N9:=N5.out.below bg N5.out.lt
    have C9:=hid (C5.out.below bg C5.out.lt)
    have uV:=hid (Below.next FX.out bg)
    have R9:=hid (R5.out.kept (w':=grow (redrawn W5 dq) osq) (row:=none) ⟨bg.os,bg.tape,bg.output,bg.size,fun i hi _=>bg.block i hi⟩ zs zs)
    simp only at N9 C9 uV R9⊢
    generalize grow (redrawn W5 dq) osq=w9 at N9 C9 uV R9⊢
    clear bg
    have n0:w9.cell? ⟨w2.heap.size,0,none⟩=some (int i64 m0):=N9.cell 0
    have nf:=N9.thaw
    have gw:=hid N9
    clear N9
    gi_wp2
    go_roundw
    case rel=>
     obtain⟨hb0,hb1,hb2,hb3,hm0,hm1,hm2⟩:=HB.out
     have hlq:=fL.out
     rw[← hb0] at hlq
     refine⟨fun z=>left z && !z.sameKey (eH 0 4),Gw,?_,fun kl h=>fz.out kl (by simp only[Bool.and_eq_true] at h;exact h.1),hid ⟨?_,C9.out.other zn _,uV.out.setCell zn _⟩⟩
     ·exact R9.out.kept (row:=some w2.heap.size) ⟨rfl,rfl,rfl,by simp[World.setCell],fun i hi hne=>Below.heap_setCell _ _ _ _ (fun e=>hne (by rw[e]))⟩ zm zs
     ·dsimp only
      rw[Zd,Zh,Zl,Zp,← hb0,← hb1,← hb2,← hb3]
      have F:=gw.out.set 0 (int i64 (max m0 2))
      have e0:P6 (b0 && !true) (b1 && !false)=max m0 2:=by rw[hm0];cases b0 <;> cases b1 <;> first|decide|(cases hlq)
      have e1:Ry (b2 && !false)=m1:=by rw[hm1];cases b2 <;> first|decide|(cases hlq)
      have e2:Ry (b3 && !false)=m2:=by rw[hm2];cases b3 <;> first|decide|(cases hlq)
      rw[e0,e1,e2]
      exact F
    case measure=>
     have h1:=Ek.out
     rw[h1]
     have h2:=(R9.out.kept (w':=w9.setCell ⟨w2.heap.size,0,none⟩ (int i64 (max m0 2))) (row:=some w2.heap.size) ⟨rfl,rfl,rfl,by simp[World.setCell],fun i hi hne=>Below.heap_setCell _ _ _ _ (fun e=>hne (by rw[e]))⟩ zm zs).left_eq
     rw[h2]
     exact Yo
   ·rw[hkl] at wu hlk
    have JK:=hid wu
    have fL:=hid hlk
    clear wu hlk hkl
    obtain⟨W5,nJ⟩:∃W5,W5=w4.alloc (.cells #[int i64 0,int i64 5] 143):=zE
    have X5:Whole W5 wr.heap.size 143 #[int i64 0,int i64 5]:=by rw[nJ,← hs4];exact Whole.new _ _ _
    have N5:=hid (by rw[nJ];exact N4.out.alloc _:Whole W5 w2.heap.size 88 #[int i64 m0,int i64 m1,int i64 m2])
    have C5:=hid (by rw[nJ];exact C4.out.alloc _:Whole W5 w.heap.size 75 #[int i64 10,int i64 1,.slice (some ⟨G,0,none⟩) 2 2,.slice (some ⟨M,0,none⟩) 4 4,.slice (some ⟨C,0,none⟩) 2 2,.slice A n p])
    have FX:Hid (Below w.heap.size w W5):=hid (by rw[nJ];exact Below.al D6.out _)
    have R5:=hid (by rw[nJ];exact JK.out.alloc _:W5.ranges prog 143 (plainElem prog 3) Mp (w2.heap.size+1) nn DT (fun z=>left z && !z.sameKey (eH 0 5)) Gw)
    have x0:∀d os,(grow (redrawn W5 d) os).cell? ⟨wr.heap.size,0,none⟩=some (int i64 0):=cell_regrown (X5.cell 0)
    have q0:∀d os,(grow (redrawn W5 d) os).cell? ⟨w2.heap.size,0,none⟩=some (int i64 m0):=cell_regrown (N5.out.cell 0)
    have WV:=hid nJ
    clear nJ X5
    gi_wp2
    rw[← WV.out]
    refine aJ 8 rfl zk zk ?_
    repeat (quiet_step_in (fail))
    refine wpQuietIn_nil ?_
    rintro w' ⟨⟨dq,osq⟩,rfl⟩
    have bg:=below_regrown W5 dq osq
    clear x0 q0
    have N9:=N5.out.below bg N5.out.lt
    have C9:=hid (C5.out.below bg C5.out.lt)
    have uV:=hid (Below.next FX.out bg)
    have R9:=hid (R5.out.kept (w':=grow (redrawn W5 dq) osq) (row:=none) ⟨bg.os,bg.tape,bg.output,bg.size,fun i hi _=>bg.block i hi⟩ zs zs)
    simp only at N9 C9 uV R9⊢
    generalize grow (redrawn W5 dq) osq=w9 at N9 C9 uV R9⊢
    clear bg
    have n0:w9.cell? ⟨w2.heap.size,0,none⟩=some (int i64 m0):=N9.cell 0
    have nf:=N9.thaw
    have gw:=hid N9
    clear N9
    gi_wp2
    go_roundw
    case rel=>
     obtain⟨hb0,hb1,hb2,hb3,hm0,hm1,hm2⟩:=HB.out
     have hlq:=fL.out
     rw[← hb1] at hlq
     refine⟨fun z=>left z && !z.sameKey (eH 0 5),Gw,?_,fun kl h=>fz.out kl (by simp only[Bool.and_eq_true] at h;exact h.1),hid ⟨?_,C9.out.other zn _,uV.out.setCell zn _⟩⟩
     ·exact R9.out.kept (row:=some w2.heap.size) ⟨rfl,rfl,rfl,by simp[World.setCell],fun i hi hne=>Below.heap_setCell _ _ _ _ (fun e=>hne (by rw[e]))⟩ zm zs
     ·dsimp only
      rw[Ze,Zi,Zm,Zq,← hb0,← hb1,← hb2,← hb3]
      have F:=gw.out.set 0 (int i64 (max m0 2))
      have e0:P6 (b0 && !false) (b1 && !true)=max m0 2:=by rw[hm0];cases b0 <;> cases b1 <;> first|decide|(cases hlq)
      have e1:Ry (b2 && !false)=m1:=by rw[hm1];cases b2 <;> first|decide|(cases hlq)
      have e2:Ry (b3 && !false)=m2:=by rw[hm2];cases b3 <;> first|decide|(cases hlq)
      rw[e0,e1,e2]
      exact F
    case measure=>
     have h1:=Ek.out
     rw[h1]
     have h2:=(R9.out.kept (w':=w9.setCell ⟨w2.heap.size,0,none⟩ (int i64 (max m0 2))) (row:=some w2.heap.size) ⟨rfl,rfl,rfl,by simp[World.setCell],fun i hi hne=>Below.heap_setCell _ _ _ _ (fun e=>hne (by rw[e]))⟩ zm zs).left_eq
     rw[h2]
     exact Yo
   ·rw[hkl] at wu hlk
    have JK:=hid wu
    have fL:=hid hlk
    clear wu hlk hkl
    obtain⟨W5,nJ⟩:∃W5,W5=w4.alloc (.cells #[int i64 1,int i64 5] 143):=zE
    have X5:Whole W5 wr.heap.size 143 #[int i64 1,int i64 5]:=by rw[nJ,← hs4];exact Whole.new _ _ _
    have N5:=hid (by rw[nJ];exact N4.out.alloc _:Whole W5 w2.heap.size 88 #[int i64 m0,int i64 m1,int i64 m2])
    have C5:=hid (by rw[nJ];exact C4.out.alloc _:Whole W5 w.heap.size 75 #[int i64 10,int i64 1,.slice (some ⟨G,0,none⟩) 2 2,.slice (some ⟨M,0,none⟩) 4 4,.slice (some ⟨C,0,none⟩) 2 2,.slice A n p])
    have FX:Hid (Below w.heap.size w W5):=hid (by rw[nJ];exact Below.al D6.out _)
    have R5:=hid (by rw[nJ];exact JK.out.alloc _:W5.ranges prog 143 (plainElem prog 3) Mp (w2.heap.size+1) nn DT (fun z=>left z && !z.sameKey (eH 1 5)) Gw)
    have x0:∀d os,(grow (redrawn W5 d) os).cell? ⟨wr.heap.size,0,none⟩=some (int i64 1):=cell_regrown (X5.cell 0)
    have q0:∀d os,(grow (redrawn W5 d) os).cell? ⟨w2.heap.size,1,none⟩=some (int i64 m1):=cell_regrown (N5.out.cell 1)
    have WV:=hid nJ
    clear nJ X5
    gi_wp2
    rw[← WV.out]
    refine aJ 8 rfl zk zk ?_
    repeat (quiet_step_in (fail))
    refine wpQuietIn_nil ?_
    rintro w' ⟨⟨dq,osq⟩,rfl⟩
    have bg:=below_regrown W5 dq osq
    clear x0 q0
    have N9:=N5.out.below bg N5.out.lt
    have C9:=hid (C5.out.below bg C5.out.lt)
    have uV:=hid (Below.next FX.out bg)
    have R9:=hid (R5.out.kept (w':=grow (redrawn W5 dq) osq) (row:=none) ⟨bg.os,bg.tape,bg.output,bg.size,fun i hi _=>bg.block i hi⟩ zs zs)
    simp only at N9 C9 uV R9⊢
    generalize grow (redrawn W5 dq) osq=w9 at N9 C9 uV R9⊢
    clear bg
    have n0:w9.cell? ⟨w2.heap.size,1,none⟩=some (int i64 m1):=N9.cell 1
    have nf:=N9.thaw
    have gw:=hid N9
    clear N9
    gi_wp2
    go_roundw
    case rel=>
     obtain⟨hb0,hb1,hb2,hb3,hm0,hm1,hm2⟩:=HB.out
     have hlq:=fL.out
     rw[← hb2] at hlq
     refine⟨fun z=>left z && !z.sameKey (eH 1 5),Gw,?_,fun kl h=>fz.out kl (by simp only[Bool.and_eq_true] at h;exact h.1),hid ⟨?_,C9.out.other zn _,uV.out.setCell zn _⟩⟩
     ·exact R9.out.kept (row:=some w2.heap.size) ⟨rfl,rfl,rfl,by simp[World.setCell],fun i hi hne=>Below.heap_setCell _ _ _ _ (fun e=>hne (by rw[e]))⟩ zm zs
     ·dsimp only
      rw[Zf,Zj,Zn,Zt,← hb0,← hb1,← hb2,← hb3]
      have F:=gw.out.set 1 (int i64 (max m1 4))
      have e0:P6 (b0 && !false) (b1 && !false)=m0:=by rw[hm0];cases b0 <;> cases b1 <;> first|decide|(cases hlq)
      have e1:Ry (b2 && !true)=max m1 4:=by rw[hm1];cases b2 <;> first|decide|(cases hlq)
      have e2:Ry (b3 && !false)=m2:=by rw[hm2];cases b3 <;> first|decide|(cases hlq)
      rw[e0,e1,e2]
      exact F
    case measure=>
     have h1:=Ek.out
     rw[h1]
     have h2:=(R9.out.kept (w':=w9.setCell ⟨w2.heap.size,1,none⟩ (int i64 (max m1 4))) (row:=some w2.heap.size) ⟨rfl,rfl,rfl,by simp[World.setCell],fun i hi hne=>Below.heap_setCell _ _ _ _ (fun e=>hne (by rw[e]))⟩ zm zs).left_eq
     rw[h2]
     exact Yo
   ·rw[hkl] at wu hlk
    have JK:=hid wu
    have fL:=hid hlk
    clear wu hlk hkl
    obtain⟨W5,nJ⟩:∃W5,W5=w4.alloc (.cells #[int i64 2,int i64 0] 143):=zE
    have X5:Whole W5 wr.heap.size 143 #[int i64 2,int i64 0]:=by rw[nJ,← hs4];exact Whole.new _ _ _
    have N5:=hid (by rw[nJ];exact N4.out.alloc _:Whole W5 w2.heap.size 88 #[int i64 m0,int i64 m1,int i64 m2])
    have C5:=hid (by rw[nJ];exact C4.out.alloc _:Whole W5 w.heap.size 75 #[int i64 10,int i64 1,.slice (some ⟨G,0,none⟩) 2 2,.slice (some ⟨M,0,none⟩) 4 4,.slice (some ⟨C,0,none⟩) 2 2,.slice A n p])
    have FX:Hid (Below w.heap.size w W5):=hid (by rw[nJ];exact Below.al D6.out _)
    have R5:=hid (by rw[nJ];exact JK.out.alloc _:W5.ranges prog 143 (plainElem prog 3) Mp (w2.heap.size+1) nn DT (fun z=>left z && !z.sameKey (eH 2 0)) Gw)
    have x0:∀d os,(grow (redrawn W5 d) os).cell? ⟨wr.heap.size,0,none⟩=some (int i64 2):=cell_regrown (X5.cell 0)
    have q0:∀d os,(grow (redrawn W5 d) os).cell? ⟨w2.heap.size,2,none⟩=some (int i64 m2):=cell_regrown (N5.out.cell 2)
    have WV:=hid nJ
    clear nJ X5
    gi_wp2
    rw[← WV.out]
    refine aJ 8 rfl zk zk ?_
    repeat (quiet_step_in (fail))
    refine wpQuietIn_nil ?_
    rintro w' ⟨⟨dq,osq⟩,rfl⟩
    have bg:=below_regrown W5 dq osq
    clear x0 q0
    have N9:=N5.out.below bg N5.out.lt
    have C9:=hid (C5.out.below bg C5.out.lt)
    have uV:=hid (Below.next FX.out bg)
    have R9:=hid (R5.out.kept (w':=grow (redrawn W5 dq) osq) (row:=none) ⟨bg.os,bg.tape,bg.output,bg.size,fun i hi _=>bg.block i hi⟩ zs zs)
    simp only at N9 C9 uV R9⊢
    generalize grow (redrawn W5 dq) osq=w9 at N9 C9 uV R9⊢
    clear bg
    have n0:w9.cell? ⟨w2.heap.size,2,none⟩=some (int i64 m2):=N9.cell 2
    have nf:=N9.thaw
    have gw:=hid N9
    clear N9
    gi_wp2
    go_roundw
    case rel=>
     obtain⟨hb0,hb1,hb2,hb3,hm0,hm1,hm2⟩:=HB.out
     have hlq:=fL.out
     rw[← hb3] at hlq
     refine⟨fun z=>left z && !z.sameKey (eH 2 0),Gw,?_,fun kl h=>fz.out kl (by simp only[Bool.and_eq_true] at h;exact h.1),hid ⟨?_,C9.out.other zn _,uV.out.setCell zn _⟩⟩
     ·exact R9.out.kept (row:=some w2.heap.size) ⟨rfl,rfl,rfl,by simp[World.setCell],fun i hi hne=>Below.heap_setCell _ _ _ _ (fun e=>hne (by rw[e]))⟩ zm zs
     ·dsimp only
      rw[Zg,Zk,Zo,Zu,← hb0,← hb1,← hb2,← hb3]
      have F:=gw.out.set 2 (int i64 (max m2 4))
      have e0:P6 (b0 && !false) (b1 && !false)=m0:=by rw[hm0];cases b0 <;> cases b1 <;> first|decide|(cases hlq)
      have e1:Ry (b2 && !false)=m1:=by rw[hm1];cases b2 <;> first|decide|(cases hlq)
      have e2:Ry (b3 && !true)=max m2 4:=by rw[hm2];cases b3 <;> first|decide|(cases hlq)
      rw[e0,e1,e2]
      exact F
    case measure=>
     have h1:=Ek.out
     rw[h1]
     have h2:=(R9.out.kept (w':=w9.setCell ⟨w2.heap.size,2,none⟩ (int i64 (max m2 4))) (row:=some w2.heap.size) ⟨rfl,rfl,rfl,by simp[World.setCell],fun i hi hne=>Below.heap_setCell _ _ _ _ (fun e=>hne (by rw[e]))⟩ zm zs).left_eq
     rw[h2]
     exact Yo
end
section
open Go.RowKit Go.Maps
attribute [local go_sem] Oper.semAt_some
theorem QA(G M C:Nat)(w:World)(h:(Tb 1 G M C).At w w.heap.size):CallsIn FF 0 prog 27 #[(Tb 1 G M C).val] w fun e w'=>e=.returned (.tuple #[int i64 0,int i64 2,int i64 0])∧Below w.heap.size w w':=by
 have HO:=hid fun w h=>mU (Tb 1 G M C) w h (ko 1 zD G M C) (Nat.le_refl 2)
 have HB:=hid fun A p w hc=>tP G M C A p w hc
 have HA:=hid h
 obtain⟨n,hn⟩:∃n,n=(ak (Tb 1 G M C)).length:=zE
 rw[← hn] at HO HB
 clear hn h
 have Lk:Hid (∀A w,pQ (Tb 1 G M C) A w→∀w',Below w.heap.size w w'→pQ (Tb 1 G M C) A w'):=hid fun A w h w' hb=>h.below hb
 simp only[Tb,Bk.val,Bk.cells,aA] at HO HB⊢
 gi_enter func27,ntmps27
 gi_wp2_with (first
  | (gi_at_call 37;refine(HO.out _ (HA.out.up (bw))).mono ?_;rintro e w2 ⟨A,p,rfl,hc2,hb2,-⟩)
  | (gi_at_call 70;refine(HB.out A p _ (Lk.out A _ hc2 _ (bw))).mono ?_;rintro e w4 ⟨rfl,hb4⟩))
 go_ret3
 have KO:=Below.al (Below.next (show Below w.heap.size w (w.alloc (.cells #[int i64 10,int i64 1,.slice (some ⟨G,0,none⟩) 2 2,.slice (some ⟨M,0,none⟩) 4 4,.slice (some ⟨C,0,none⟩) 2 2] 26)) from bw) hb2) (.cells #[int i64 10,int i64 1,.slice (some ⟨G,0,none⟩) 2 2,.slice (some ⟨M,0,none⟩) 4 4,.slice (some ⟨C,0,none⟩) 2 2,.slice A n p] 75)
 exact⟨rfl,Below.next KO hb4⟩
end
section
open Go.RowKit
theorem sZ(p:Nat→Bool)(k:Nat):(((List.range k).filter p).map fun(n:Nat)=>(n:Int)).Pairwise (· < ·):=by
 rw[List.pairwise_map]
 exact(List.pairwise_lt_range.filter _).imp fun h=>by exact_mod_cast h
theorem UQ(b:Bk)(k:Nat):(dX b k).Pairwise (· < ·):=sZ _ _
theorem Qa{b:Bk}{k:Nat}{i:Nat}(hi:i<k)(hz:(b.m i).kind=0):(i:Int)∈dX b k:=by
 unfold dX
 exact List.mem_map.2 ⟨i,List.mem_filter.2 ⟨List.mem_range.2 hi,by simp[hz]⟩,rfl⟩
theorem Yt{l:List Int}{x:Int}(h:x∈l):l.getD (l.idxOf x) 0=x:=by
 have:=List.idxOf_lt_length_iff.2 h
 simp[this]
theorem lz{l:List Int}{x y:Int}(hl:l.Pairwise (· < ·))(hx:x∈l)(hy:y∈l)(h:x<y):l.idxOf x<l.idxOf y:=by
 have h1:=List.idxOf_lt_length_iff.2 hx
 have h2:=List.idxOf_lt_length_iff.2 hy
 have e1:l[l.idxOf x]=x:=zs
 have e2:l[l.idxOf y]=y:=zs
 rcases Nat.lt_trichotomy (l.idxOf x) (l.idxOf y) with h3|h3|h3
 ·exact h3
 ·exfalso;have:x=y:=by rw[← e1,← e2];simp[h3]
  omega
 ·exfalso;have:=List.pairwise_iff_getElem.1 hl _ _ h2 h1 h3
  rw[e1,e2] at this;omega
theorem lB{l:List Int}{x:Int}(hl:l.Pairwise (· < ·))(hx:x∈l):∀i,i<l.idxOf x→l.getD i 0≠l.getD (l.idxOf x) 0:=fun i hi=>by
 have h1:=List.idxOf_lt_length_iff.2 hx
 have:=List.pairwise_iff_getElem.1 hl i _ zo h1 hi
 rw[show l.getD i 0=l[i] by simp[show i<l.length by omega],show l.getD (l.idxOf x) 0=l[l.idxOf x] by simp[h1]]
 omega
def gB(nt l3:List Int)(k:Nat):List Int:=(l3.take k).map fun x=>((nt.idxOf x:Nat):Int)
theorem Bw(nt l3:List Int){k:Nat}(hk:k<l3.length):gB nt l3 (k+1)=gB nt l3 k ++ [((nt.idxOf (l3.getD k 0):Nat):Int)]:=by
 unfold gB
 rw[List.take_add_one,List.map_append]
 simp[hk]
theorem tF(nt l3:List Int){k:Nat}(hk:k≤l3.length):(gB nt l3 k).length=k:=by
 unfold gB;simp;omega
theorem uK:∀ (a b:List Nat),a.Nodup→a ⊆ b→a.length≤b.length
 | [],_,_,_=>Nat.zero_le _
 | x :: a,b,h,hs=>by
   have h1:=(List.nodup_cons.1 h)
   have hx:x∈b:=hs (List.mem_cons_self)
   have:=uK a (b.erase x) h1.2 (fun y hy=>(List.mem_erase_of_ne (by rintro rfl;exact h1.1 hy)).2 (hs (List.mem_cons_of_mem _ hy)))
   rw[List.length_erase_of_mem hx] at this
   have hp:0<b.length:=List.length_pos_of_mem hx
   simp only[List.length_cons]
   omega
theorem Gp(b:Bk)(l1 l2 l3:List Int)(w:World)(h:b.At w w.heap.size)(ok:b.Ok)(hp:wX b l1 l2 l3)(A1 A2 A3:Option Addr)(p1 p2 p3:Nat)
 (i1:Ints w w.heap.size A1 l1.length (fun i=>l1.getD i 0))(i2:Ints w w.heap.size A2 l2.length (fun i=>l2.getD i 0))(i3:Ints w w.heap.size A3 l3.length (fun i=>l3.getD i 0)):
 CallsIn FF 0 prog 86 #[b.val,.slice A1 l1.length p1,.slice A2 l2.length p2,.slice A3 l3.length p3] w fun e w'=>e=.returned (int i64 0)∧Below w.heap.size w w':=by
 obtain⟨dY,mO,gA,ng,gc,g,mA,nm,mc,m,cA,nc,cc,c⟩:=b
 have hN:∀w,(⟨dY,mO,gA,ng,gc,g,mA,nm,mc,m,cA,nc,cc,c⟩:Bk).At w w.heap.size→CallsIn FF 0 prog 113 #[.agg #[int i64 dY,int i64 mO,.slice gA ng gc,.slice mA nm mc,.slice cA nc cc]] w fun e w'=>∃v,e=.returned v∧w'.ownsRow w.heap.size 3 1 v (dX (⟨dY,mO,gA,ng,gc,g,mA,nm,mc,m,cA,nc,cc,c⟩:Bk) nm).length ((dX (⟨dY,mO,gA,ng,gc,g,mA,nm,mc,m,cA,nc,cc,c⟩:Bk) nm).map (int i64))∧Below w.heap.size w w':=fun w h=>YL ⟨dY,mO,gA,ng,gc,g,mA,nm,mc,m,cA,nc,cc,c⟩ w h ok.moves.1
 obtain⟨nt,hnt⟩:∃nt,nt=dX (⟨dY,mO,gA,ng,gc,g,mA,nm,mc,m,cA,nc,cc,c⟩:Bk) nm:=zE
 rw[← hnt] at hN
 have hup:Hid (nt.Pairwise (· < ·)):=hid (by rw[hnt];exact UQ _ _)
 have hin:Hid (∀x∈l3,x∈nt):=hid (fun x hx=>by
  obtain⟨i,rfl,h1,h2⟩:=hp.came x hx
  rw[hnt];exact Qa h1 h2)
 have hnl:nt.length≤6:=by rw[hnt];exact Nat.le_trans (vI _ _) ok.moves.1
 have hl3:l3.length≤6:=by
  have h6:(l3.map Int.toNat).Nodup:=by
   rw[List.nodup_iff_pairwise_ne,List.pairwise_map]
   refine hp.up.imp_of_mem ?_
   intro x y hx hy hxy e
   obtain⟨i,rfl,_,_⟩:=hp.came x hx
   obtain⟨j,rfl,_,_⟩:=hp.came y hy
   simp at e
   omega
  have h7:(l3.map Int.toNat) ⊆ List.range nm:=fun x hx=>by
   obtain⟨y,hy,rfl⟩:=List.mem_map.1 hx
   obtain⟨i,rfl,h8,_⟩:=hp.came y hy
   simpa using h8
  have h9:(l3.map Int.toNat).length≤(List.range nm).length:=uK _ _ h6 h7
  have:=ok.moves.1
  simp at h9 this
  omega
 have e1:=hp.n1
 have e2:=hp.n2
 simp only at e1 e2
 have wm:ng≤3:=ok.bX.1.2
 have hnm:nm≤6:=ok.moves.1
 rw[e1] at i1⊢
 rw[e2] at i2⊢
 have b1:∀i,i<ng→0≤l1.getD i 0∧l1.getD i 0≤99:=fun i hi=>hp.b1 _ (by rw[show l1.getD i 0=l1[i]'zo by simp[show i<l1.length by omega]];exact List.getElem_mem _)
 have b2:∀i,i<nm→0≤l2.getD i 0∧l2.getD i 0≤99:=fun i hi=>hp.b2 _ (by rw[show l2.getD i 0=l2[i]'zo by simp[show i<l2.length by omega]];exact List.getElem_mem _)
 have B1:=hid b1
 have B2:=hid b2
 have HU:=hid hp.up
 have Hh:=hid h
 have I1:=hid i1
 have I2:=hid i2
 have I3:=hid i3
 clear h ok hp i1 i2 i3 hnt b1 b2 e1 e2
 simp only[Bk.val,Bk.cells]
 obtain⟨i0,hi,hz0,hz1,hz2⟩:=info_parts info3
 have hi0:=hid hi
 clear hi
 gi_enter func86,ntmps86
 gi_wp2_with (gi_at_call 113;refine(hN _ (Hh.out.below (bw) |>.more zm)).mono ?_;rintro e w4 ⟨v4,rfl,Ul,hb4⟩;obtain⟨A4,c4,rfl⟩:=fZ Ul;have D6:=hid hb4;have LO:=hid Ul;clear hb4 Ul)
 have hW4:Hid (Below w.heap.size w w4):=hid ((bw:Below w.heap.size w _).trans (D6.out.mono zm))
 have hs4:w.heap.size+3≤w4.heap.size:=by have:=D6.out.size;simp at this;omega
 have kA:Whole (((w.alloc (.cells #[int i64 dY,int i64 mO,.slice gA ng gc,.slice mA nm mc,.slice cA nc cc] 73)).alloc (.cells #[.slice A1 ng p1] 51)).alloc (.cells #[.slice A2 nm p2] 51)) w.heap.size 73 #[int i64 dY,int i64 mO,.slice gA ng gc,.slice mA nm mc,.slice cA nc cc]:=((Whole.new w 73 _).alloc _).alloc _
 have kB:Whole (((w.alloc (.cells #[int i64 dY,int i64 mO,.slice gA ng gc,.slice mA nm mc,.slice cA nc cc] 73)).alloc (.cells #[.slice A1 ng p1] 51)).alloc (.cells #[.slice A2 nm p2] 51)) (w.heap.size+1) 51 #[.slice A1 ng p1]:=by
  have:=(Whole.new (w.alloc (.cells #[int i64 dY,int i64 mO,.slice gA ng gc,.slice mA nm mc,.slice cA nc cc] 73)) 51 #[.slice A1 ng p1]).alloc (.cells #[.slice A2 nm p2] 51)
  rwa[World.size_alloc] at this
 have kC:Whole (((w.alloc (.cells #[int i64 dY,int i64 mO,.slice gA ng gc,.slice mA nm mc,.slice cA nc cc] 73)).alloc (.cells #[.slice A1 ng p1] 51)).alloc (.cells #[.slice A2 nm p2] 51)) (w.heap.size+1+1) 51 #[.slice A2 nm p2]:=by
  have:=Whole.new ((w.alloc (.cells #[int i64 dY,int i64 mO,.slice gA ng gc,.slice mA nm mc,.slice cA nc cc] 73)).alloc (.cells #[.slice A1 ng p1] 51)) 51 #[.slice A2 nm p2]
  rwa[World.size_alloc,World.size_alloc] at this
 have jA:=hid (kA.below D6.out kA.lt)
 have jB:=hid (kB.below D6.out kB.lt)
 have jC:=hid (kC.below D6.out kC.lt)
 clear kA kB kC
 obtain⟨w5,FR⟩:∃w5,w5=(w4.alloc (.cells #[.slice A4 nt.length c4] 51)).alloc (.cells #[.slice none 0 0] 51):=zE
 have nJ:Hid (Below w4.heap.size w4 w5):=hid (by rw[FR];exact bw)
 have hs5:w5.heap.size=w4.heap.size+2:=by rw[FR];simp
 have n5:Hid (Whole w5 w4.heap.size 51 #[.slice A4 nt.length c4]):=hid (by rw[FR];exact(Whole.new w4 51 _).alloc _)
 have x5:Hid (Whole w5 (w4.heap.size+1) 51 #[.slice none 0 0]):=hid (by
  have:=Whole.new (w4.alloc (.cells #[.slice A4 nt.length c4] 51)) 51 #[.slice none 0 0]
  rw[FR];rwa[World.size_alloc] at this)
 rw[← FR]
 clear FR
 gi_wp2
 gi_loopw [17] (fun i wr=>∃k:Nat,k≤l3.length∧i=int i64 k∧∃v,Hid (Whole wr (w4.heap.size+1) 51 #[v]∧wr.ownsRow (w4.heap.size+2) 3 1 v k ((gB nt l3 k).map (int i64))∧Below (w4.heap.size+1) w5 wr)) (fun i _=>l3.length - (intOf i).toNat)
 case atStart=>exact⟨0,Nat.zero_le _,rfl,_,hid ⟨x5.out,pq _ _ _,zB⟩⟩
 case round=>
  obtain⟨k,hk,rfl,v,hR⟩:=hrel
  have hbw:Hid (Below w.heap.size w wr):=hid ((hW4.out.trans (nJ.out.mono zo)).trans (hR.out.2.2.mono zo))
  have hsr:=hR.out.2.2.size
  by_cases hlt:k<l3.length
  ·have HI3:=hid (bG I3.out hbw.out)
   obtain⟨ad3,rfl,-⟩:=HI3.out (show 0<l3.length by omega)
   have ck:=Ints.at_ HI3.out hlt
   have hmem:l3.getD k 0∈nt:=hin.out _ (by rw[show l3.getD k 0=l3[k] by simp[hlt]];exact List.getElem_mem _)
   have hX:Hid (∀w',Below w4.heap.size w4 w'→CallsIn FF 0 prog 114 #[.slice A4 nt.length c4,int i64 (l3.getD k 0)] w' fun e w2=>e=.returned (int i64 ((nt.idxOf (l3.getD k 0):Nat):Int))∧Below w'.heap.size w' w2):=hid fun w' hb=>by
    have:=Pz (fun i=>nt.getD i 0) A4 nt.length c4 (nt.idxOf (l3.getD k 0)) w' (bG (eG LO.out) hb) zU (List.idxOf_lt_length_iff.2 hmem) (lB hup.out hmem)
    rwa[Yt hmem] at this
   obtain⟨x,hx⟩:∃x,x=l3.getD k 0:=zE
   have HX:=hid hx
   rw[← hx] at ck hX
   clear hx hmem
   have q1:=hR.out.1.cell 0
   have q2:=(n5.out.below hR.out.2.2 (Nat.lt_succ_self _)).cell 0
   have hlen:=tF nt l3 hk
   gi_wp2
   refine iW 6 (fun w'=>w'.cell? ⟨w4.heap.size+1,0,none⟩=some v∧w'.cell? ⟨w4.heap.size,0,none⟩=some (.slice A4 nt.length c4)) zk ?_
   have hS:wr.drew.cell? ⟨w4.heap.size+1,0,none⟩=some v∧wr.drew.cell? ⟨w4.heap.size,0,none⟩=some (.slice A4 nt.length c4):=⟨q1,q2⟩
   have hs1:w4.heap.size+1<wr.heap.size:=hR.out.1.lt
   have Na:∀w':World,w'.heap[w4.heap.size+1]? =wr.heap[w4.heap.size+1]?→w'.heap[w4.heap.size]? =wr.heap[w4.heap.size]?→(w'.cell? ⟨w4.heap.size+1,0,none⟩=some v∧w'.cell? ⟨w4.heap.size,0,none⟩=some (.slice A4 nt.length c4)):=fun w' e1 e2=>
    ⟨(World.cell?_of_block (a:=⟨w4.heap.size+1,0,none⟩) e1).trans q1,(World.cell?_of_block (a:=⟨w4.heap.size,0,none⟩) e2).trans q2⟩
   have hown:=hR.out.2.1
   have hge:∀g,v.ownBlock=some g→w4.heap.size+1<g:=fun g hg=>(bL hown hg).1
   have Hg:=hid hge
   clear hge
   refine BS (i:=0) (some 21) hS ?_
   simp only[Act.put,List.setIfInBounds_toArray,List.set]
   refine BS (i:=1) (some 22) hS ?_
   simp only[Act.put,List.setIfInBounds_toArray,List.set]
   refine BS (i:=2) (some 23) hS ?_
   simp only[Act.put,List.setIfInBounds_toArray,List.set]
   refine aZ 3 fun K hK=>?_
   go_simp
   refine(hX.out _ (dD (nJ.out.trans (hR.out.2.2.mono zo)))).mono ?_
   rintro e w1 ⟨rfl,hb1⟩
   have x1:w1.heap[w4.heap.size+1]? =wr.heap[w4.heap.size+1]?:=hb1.block _ hs1
   have x2:w1.heap[w4.heap.size]? =wr.heap[w4.heap.size]?:=hb1.block _ (by show w4.heap.size<wr.heap.size;omega)
   have aaS:wr.heap.size≤w1.heap.size:=hb1.size
   refine hK.out _ _ (fun _=>Na _ x1 x2) ?_
   clear hK K
   refine aZ 4 fun K hK=>?_
   go_simp
   have y1:=(Below.heap_alloc w1 (.cells #[int i64 ((nt.idxOf (l3.getD k 0):Nat):Int)] 3) (w4.heap.size+1) zo).trans x1
   have y2:=(Below.heap_alloc w1 (.cells #[int i64 ((nt.idxOf (l3.getD k 0):Nat):Int)] 3) w4.heap.size zo).trans x2
   rw[← HX.out] at y1 y2
   refine hK.out _ _ (fun _=>Na _ y1 y2) ?_
   clear hK K
   refine aZ 5 fun K hK=>?_
   refine wD rfl zr zr (step_append_lies (E:=True) _ zr _ _ _ zr (w4.heap.size+2) 3 i0 _ 1 8 underlying51 hi0.out hz0 hz1 hz2 rfl zo v k _ zr (bD (own_below (w:=wr.drew) hown hb1) _) ⟨w1.heap.size,0,none⟩ 1 1 [_] zr zr (World.news_of_block (heap_alloc_new w1 _)) (by simp[Value.oneCell']) zo zU zo zm (w1.heap.size+1) zs ?_)
   intro gg cap w2 hown2 hgrow hat hlt2
   have z1:=(hgrow.block (w4.heap.size+1) zm (fun e=>by have:=Hg.out _ e.symm;omega)).trans y1
   have z2:=(hgrow.block w4.heap.size zm (fun e=>by have:=Hg.out _ e.symm;omega)).trans y2
   refine hK.out _ _ (fun _=>Na _ z1 z2) ?_
   clear hK K
   have zW:Whole w2 (w4.heap.size+1) 51 #[v]:=hR.out.1.of z1
   have zc:=zW.cell 0
   have zf:=zW.thaw 0
   refine aZ 6 fun K hK=>?_
   go_simp
   refine hK.out _ _ (fun h=>absurd rfl h) ?_
   clear hK K
   refine aG zk ?_ _
   gi_wp2
   go_roundw
   case rel=>
    refine⟨k+1,zo,by go_num,_,hid ⟨zW.set 0 _,?_,?_⟩⟩
    ·refine bS ?_ (by show w4.heap.size+1<w4.heap.size+2;omega) _
     rw[Bw nt l3 hlt,List.map_append,← HX.out]
     exact hown2
    ·refine Below.setCell ?_ (by show w4.heap.size+1≤w4.heap.size+1;omega) _
     exact((hR.out.2.2.trans ((Gh hb1).mono (by show w4.heap.size+1≤wr.heap.size;omega))).alloc zo _).trans (below_grown hgrow zm (fun g hg=>by have:=Hg.out _ hg;omega))
   case measure=>simp[intOf];omega
  ·obtain rfl:k=l3.length:=zo
   obtain⟨A7,c7,rfl⟩:=fZ hR.out.2.1
   have hpl:=tF nt l3 (Nat.le_refl l3.length)
   have aaQ:w4.heap.size+1<wr.heap.size:=hR.out.1.lt
   have hh1:∀w',Below wr.heap.size wr w'→CallsIn FF 0 prog 116 #[.pointer (some ⟨w.heap.size+1,0,none⟩),.pointer (some ⟨w.heap.size,0,none⟩)] w' fun e w2=>e=.returned (int i64 0)∧Below w'.heap.size w' w2:=fun w' hb=>
    YS (fun i=>l1.getD i 0) A1 ng p1 gA gc (w.heap.size+1) w.heap.size w' (bG I1.out (hbw.out.trans (hb.mono hbw.out.size))) zU B1.out
     ((((jB.out.below nJ.out zo).below hR.out.2.2 zo).below hb zo).cell 0) ((((jA.out.below nJ.out zo).below hR.out.2.2 zo).below hb zo).cell 2)
   have hh2:∀w',Below wr.heap.size wr w'→CallsIn FF 0 prog 117 #[.pointer (some ⟨w.heap.size+1+1,0,none⟩),.pointer (some ⟨w.heap.size,0,none⟩)] w' fun e w2=>e=.returned (int i64 0)∧Below w'.heap.size w' w2:=fun w' hb=>
    YT (fun i=>l2.getD i 0) A2 nm p2 mA mc (w.heap.size+1+1) w.heap.size w' (bG I2.out (hbw.out.trans (hb.mono hbw.out.size))) zU B2.out
     ((((jC.out.below nJ.out zo).below hR.out.2.2 zo).below hb zo).cell 0) ((((jA.out.below nJ.out zo).below hR.out.2.2 zo).below hb zo).cell 3)
   have hpi:∀i,i<l3.length→(gB nt l3 l3.length).getD i 0=((nt.idxOf (l3.getD i 0):Nat):Int):=fun i hi=>by
    unfold gB
    simp[hi]
   have hmem:∀i,i<l3.length→l3.getD i 0∈nt:=fun i hi=>hin.out _ (by rw[show l3.getD i 0=l3[i] by simp[hi]];exact List.getElem_mem _)
   have hh3:∀w',Below wr.heap.size wr w'→CallsIn FF 0 prog 118 #[.pointer (some ⟨w4.heap.size+1,0,none⟩),.pointer (some ⟨w4.heap.size,0,none⟩)] w' fun e w2=>e=.returned (int i64 0)∧Below w'.heap.size w' w2:=fun w' hb=>
    YU (fun i=>(gB nt l3 l3.length).getD i 0) A7 l3.length c7 nt.length A4 c4 (w4.heap.size+1) w4.heap.size w' (bG (by have:=eG (l:=gB nt l3 l3.length) (w:=wr) (A:=A7) (c:=c7) (base:=w4.heap.size+2) (e:=3) (by rw[hpl];exact hR.out.2.1);rwa[hpl] at this) hb) zU zU
     (fun i hi=>by have h1:=List.idxOf_lt_length_iff.2 (hmem i hi);rw[hpi i hi];omega)
     (fun i hi=>by
      have h1:=hpi i zo
      have h2:=hpi (i+1) hi
      rw[h1,h2]
      have h3:l3.getD i 0<l3.getD (i+1) 0:=by
       have:=List.pairwise_iff_getElem.1 HU.out i (i+1) zo hi zo
       rwa[show l3.getD i 0=l3[i] by simp[show i<l3.length by omega],show l3.getD (i+1) 0=l3[i+1] by simp[hi]]
      exact_mod_cast lz hup.out (hmem i zo) (hmem (i+1) hi) h3)
     ((hR.out.1.below hb zo).cell 0) (((n5.out.below hR.out.2.2 zo).below hb zo).cell 0)
   have Hh1:=hid hh1
   have Hh2:=hid hh2
   have Hh3:=hid hh3
   clear hh1 hh2 hh3 hpi hmem
   gi_wp2_with (gi_at_call 115;refine(Ux wr.heap.size (w.heap.size+1) w.heap.size (w.heap.size+1+1) (w4.heap.size+1) w4.heap.size _ zs zs zs zs (fun w' hb=>Hh1.out w' ((zB.alloc zL _).trans (hb.mono zs))) (fun w' hb=>Hh2.out w' ((zB.alloc zL _).trans (hb.mono zs))) (fun w' hb=>Hh3.out w' ((zB.alloc zL _).trans (hb.mono zs)))).mono ?_;rintro e wz ⟨rfl,hbz⟩)
   go_ret
   exact⟨rfl,hbw.out.trans ((((Below.refl _ wr).alloc zL _).trans (hbz.mono zs)).mono hbw.out.size)⟩
end
section
open Go.RowKit Go.Sort
section
variable{F:Fence}{n:Nat}{P:Program}
theorem qK{ops:Array Oper}{rest:List Oper}{o:Oper}{a:Act}{w:World}{Q:Exit→Act→World→Prop}(hro:F.round=none)(hgd:o.guard=none)(d s:Operand)(dT sT:TypeId)
 (ho:o.op=.call {callee:=.builtin .copy,args:=#[d,s],argTypes:=#[dT,sT] })(elem:TypeId)(hu:P.underlying dT=some (.slice elem))(hsz:(P.info? elem).map (·.size)=some 1)
 (dp sp:Option Addr)(dLen dCap sLen sCap:Nat)(hd:a.eval d=.slice dp dLen dCap)(hs:a.eval s=.slice sp sLen sCap)
 (g off:Nat)(cur:List Value)(t:TypeId)(hg:w.heap[g]? =some (.cells cur.toArray t (0,0)))(cs:List Value)(hn:cs.length=Nat.min sLen dLen)
 (hpos:0<cs.length→dp=some ⟨g,off,none⟩∧∃ad,sp=some ad∧∀j v,cs[j]? =some v→w.cell? (ad.add j)=some v)
 (hfit:off+cs.length≤cur.length)(h1:∀v∈cs,v.oneCell'=true)
 (h:∀w',w'.heap[g]? =some (.cells (splice cur off cs).toArray t (0,0))→Below g w w'→(∀b,b≠g→w'.heap[b]? =w.heap[b]?)→w'.heap.size=w.heap.size→wpListIn F n P ops Q rest (a.put o.dst (goInt cs.length)) w'):
 wpListIn F n P ops Q (o :: rest) a w:=by
 refine wpListIn_plain hgd fun K hK=>?_
 refine⟨fun f hf=>(by rw[ql ho] at hf;cases hf),?_⟩
 rw[hro,Oper.semAt_none]
 by_cases h0:cs.length=0
 ·obtain rfl:cs=[]:=List.eq_nil_of_length_eq_zero h0
  have hrun:=run_copy_none (P:=P) w dT sT o.type elem dp sp dLen dCap sLen sCap hu hsz (by simpa using hn.symm)
  have:=hK _ _ (h w (show _=_ by simpa [splice] using hg) zB (fun _ _=>rfl) rfl)
  simp[execOp,ho,resolve,invoke,builtin,hd,hs,hrun,Result.andThen,Oper.uponIn]
  exact this
 ·obtain⟨rfl,ad,rfl,hsrc⟩:=hpos zo
  have hrun:=run_copy_row (P:=P) w dT sT o.type elem g off dLen dCap ad sLen sCap cur.toArray t cs hu hsz hg hn hsrc (by simpa using hfit) h1
  have:=hK _ _ (h _ (show _=_ by simpa [splice] using setRow_heap w g _ _ t _ hg) (below_setRow zB zL _) (fun b hb=>setRow_other w g b _ hb) (by simp[World.setRow]))
  simp[execOp,ho,resolve,invoke,builtin,hd,hs,hrun,Result.andThen,Oper.uponIn]
  exact this
end
def gY(l:List Int):Nat:=l.foldl (fun s x=>s |||2 ^ x.toNat) 0
def iK(l1 l2 l3:List Int):Ht:=⟨fun i=>l1.getD i 0,fun i=>l2.getD i 0,gY l3⟩
theorem E5(l:List Int)(h:l.length≤3):splice [int i64 0,int i64 0,int i64 0,int i64 0,int i64 0,int i64 0,int i64 0,int i64 0,int i64 0,int i64 0] 0 (l.map (int i64))=
 [int i64 (l.getD 0 0),int i64 (l.getD 1 0),int i64 (l.getD 2 0),int i64 0,int i64 0,int i64 0,int i64 0,int i64 0,int i64 0,int i64 0]:=by
 match l,h with
 | [],_=>rfl
 | [_],_=>rfl
 | [_,_],_=>rfl
 | [_,_,_],_=>rfl
theorem I4(a b c:Value)(l:List Int)(h:l.length≤6):splice [a,b,c,int i64 0,int i64 0,int i64 0,int i64 0,int i64 0,int i64 0,int i64 0] 3 (l.map (int i64))=
 [a,b,c,int i64 (l.getD 0 0),int i64 (l.getD 1 0),int i64 (l.getD 2 0),int i64 (l.getD 3 0),int i64 (l.getD 4 0),int i64 (l.getD 5 0),int i64 0]:=by
 match l,h with
 | [],_=>rfl
 | [_],_=>rfl
 | [_,_],_=>rfl
 | [_,_,_],_=>rfl
 | [_,_,_,_],_=>rfl
 | [_,_,_,_,_],_=>rfl
 | [_,_,_,_,_,_],_=>rfl
theorem or_bit:∀ (s:Fin 64) (m:Fin 6),bits BinOp.or IntKind.i64 ((s.val:Nat):Int) ((2:Int) ^ m.val)=((s.val |||2 ^ m.val:Nat):Int):=by decide+kernel
theorem EK:∀ (l:List Int) (s:Nat),s<64→(∀x∈l,x.toNat<6)→l.foldl (fun s x=>s |||2 ^ x.toNat) s<64
 | [],s,h,_=>h
 | x :: l,s,h,hx=>EK l _ (Nat.or_lt_two_pow (n:=6) h (by have:=hx x List.mem_cons_self;exact Nat.pow_lt_pow_right zD this)) (fun y hy=>hx y (List.mem_cons_of_mem _ hy))
theorem Ik(l:List Int){k:Nat}(hk:k<l.length):gY (l.take (k+1))=gY (l.take k) |||2 ^ (l.getD k 0).toNat:=by
 unfold gY
 rw[List.take_add_one,List.foldl_append]
 simp[hk]
theorem H7(l1 l2 l3:List Int)(w:World)(A1 A2 A3:Option Addr)(p1 p2 p3:Nat)(hl1:l1.length≤3)(hl2:l2.length≤6)(hl3:l3.length≤6)(h3:∀x∈l3,0≤x∧x<6)
 (i1:Ints w w.heap.size A1 l1.length (fun i=>l1.getD i 0))(i2:Ints w w.heap.size A2 l2.length (fun i=>l2.getD i 0))(i3:Ints w w.heap.size A3 l3.length (fun i=>l3.getD i 0)):
 CallsIn FF 0 prog 87 #[.slice A1 l1.length p1,.slice A2 l2.length p2,.slice A3 l3.length p3] w fun e w'=>e=.returned (iK l1 l2 l3).val∧Below w.heap.size w w':=by
 have I1:=hid i1
 have I2:=hid i2
 have I3:=hid i3
 have H3:=hid h3
 obtain⟨i0,hi,hz0,hz1,hz2'⟩:=info_parts info3
 have hi0:=hid hi
 clear hi
 clear i1 i2 i3 h3
 have Z0:Whole ((w.alloc (.cells #[int i64 0,int i64 0,int i64 0,int i64 0,int i64 0,int i64 0,int i64 0,int i64 0,int i64 0,int i64 0] 91)).alloc (.cells #[int i64 0,int i64 0,int i64 0,int i64 0,int i64 0,int i64 0,int i64 0,int i64 0,int i64 0,int i64 0] 91)) (w.heap.size+1) 91 #[int i64 0,int i64 0,int i64 0,int i64 0,int i64 0,int i64 0,int i64 0,int i64 0,int i64 0,int i64 0]:=by
  have:=Whole.new (w.alloc (.cells #[int i64 0,int i64 0,int i64 0,int i64 0,int i64 0,int i64 0,int i64 0,int i64 0,int i64 0,int i64 0] 91)) 91 #[int i64 0,int i64 0,int i64 0,int i64 0,int i64 0,int i64 0,int i64 0,int i64 0,int i64 0,int i64 0]
  rwa[World.size_alloc] at this
 have Zr:Hid (Whole ((w.alloc (.cells #[int i64 0,int i64 0,int i64 0,int i64 0,int i64 0,int i64 0,int i64 0,int i64 0,int i64 0,int i64 0] 91)).alloc (.cells #[int i64 0,int i64 0,int i64 0,int i64 0,int i64 0,int i64 0,int i64 0,int i64 0,int i64 0,int i64 0] 91)) w.heap.size 91 #[int i64 0,int i64 0,int i64 0,int i64 0,int i64 0,int i64 0,int i64 0,int i64 0,int i64 0,int i64 0]):=hid ((Whole.new w 91 #[int i64 0,int i64 0,int i64 0,int i64 0,int i64 0,int i64 0,int i64 0,int i64 0,int i64 0,int i64 0]).alloc _)
 have ic:∀ (xs:List Int) (A:Option Addr) (W:World) (B:Nat),Ints W B A xs.length (fun i=>xs.getD i 0)→0<(xs.map (int i64)).length→∃ad,A=some ad∧∀j v,(xs.map (int i64))[j]? =some v→W.cell? (ad.add j)=some v:=fun xs A W B h hn=>by
  obtain⟨ad,rfl,-⟩:=h (by simpa using hn)
  refine⟨ad,rfl,fun j v hv=>?_⟩
  have hj:j<xs.length:=by
   have:=(List.getElem?_eq_some_iff.1 hv).1
   simpa using this
  rw[Ints.at_ h hj]
  simp[hj] at hv⊢
  exact hv
 have ll:(Tryz.prog.info? 3).map (·.size)=some 1:=by rw[hi0.out];simp[hz1]
 gi_enter func87,ntmps87
 gi_wp2_with (first
  | (refine qK rfl rfl _ _ _ _ rfl 3 underlying51 ll _ _ _ _ _ _ rfl rfl (w.heap.size+1) 0 [int i64 0,int i64 0,int i64 0,int i64 0,int i64 0,int i64 0,int i64 0,int i64 0,int i64 0,int i64 0] 91 Z0 (l1.map (int i64)) (by rw[List.length_map];exact(Nat.min_eq_left hl1).symm) (fun h=>⟨rfl,ic l1 A1 _ _ (bG I1.out (bw)) h⟩) zm (by simp[Value.oneCell']) ?_;intro w2 hg2 hb2 ho2 hs2;rw[E5 l1 hl1] at hg2;have hz2:=hs2;simp at hz2;have hW2:Below w.heap.size w w2:=(bw:Below w.heap.size w _).trans (hb2.mono (Nat.le_succ _)))
  | (refine qK rfl rfl _ _ _ _ rfl 3 underlying51 ll _ _ _ _ _ _ rfl rfl (w.heap.size+1) 3 _ 91 hg2 (l2.map (int i64)) (by rw[List.length_map];exact(Nat.min_eq_left hl2).symm) (fun h=>⟨rfl,ic l2 A2 _ _ (bG I2.out hW2) h⟩) zm (by simp[Value.oneCell']) ?_;intro w3 hg3 hb3 ho3 hs3;rw[I4 _ _ _ l2 hl2] at hg3))
 have hzz:Whole w3 w.heap.size 91 #[int i64 0,int i64 0,int i64 0,int i64 0,int i64 0,int i64 0,int i64 0,int i64 0,int i64 0,int i64 0]:=(Zr.out.of (ho2 _ zo)).of (ho3 _ zo)
 have hW3:Below w.heap.size w w3:=hW2.trans (hb3.mono (Nat.le_succ _))
 obtain⟨fA,hfA⟩:∃fA:Nat→Int,fA=fun i=>l1.getD i 0:=⟨_,rfl⟩
 obtain⟨fM,Su⟩:∃fM:Nat→Int,fM=fun i=>l2.getD i 0:=⟨_,rfl⟩
 have hg3':Whole w3 (w.heap.size+1) 91 (⟨fA,fM,gY (l3.take 0)⟩:Ht).cells:=by rw[hfA,Su];exact hg3
 have HFA:=hid hfA
 have HFM:=hid Su
 clear hfA Su
 have G3:=hid hg3'
 have ZZ:=hid hzz
 have HW3:=hid hW3
 clear hg3' hzz hW3 hg3 hg2 hb2 hb3 hW2 ho2 ho3 Zr Z0 ic
 gi_loopw [20] (fun i wr=>∃k:Nat,k≤l3.length∧i=int i64 k∧Hid (Whole wr (w.heap.size+1) 91 (⟨fA,fM,gY (l3.take k)⟩:Ht).cells∧Whole wr w.heap.size 91 #[int i64 0,int i64 0,int i64 0,int i64 0,int i64 0,int i64 0,int i64 0,int i64 0,int i64 0,int i64 0]∧Below w.heap.size w wr)) (fun i _=>l3.length - (intOf i).toNat)
 case atStart=>exact⟨0,Nat.zero_le _,rfl,hid ⟨G3.out,ZZ.out,HW3.out⟩⟩
 case round=>
  obtain⟨k,hk,rfl,hR⟩:=hrel
  by_cases hlt:k<l3.length
  ·have HI3:=hid (bG I3.out hR.out.2.2)
   obtain⟨ad3,rfl,-⟩:=HI3.out (show 0<l3.length by omega)
   have ck:=Ints.at_ HI3.out hlt
   obtain⟨mv,hmv,Tl⟩:∃mv:Nat,l3.getD k 0=(mv:Int)∧mv<6:=by
    have:=H3.out (l3.getD k 0) (by rw[show l3.getD k 0=l3[k] by simp[hlt]];exact List.getElem_mem _)
    exact⟨(l3.getD k 0).toNat,zo,zo⟩
   rw[hmv] at ck
   have aaP:gY (l3.take k)<64:=EK _ 0 zD (fun x hx=>by have:=H3.out x (List.mem_of_mem_take hx);omega)
   have hnx:gY (l3.take (k+1))=gY (l3.take k) |||2 ^ mv:=by rw[Ik l3 hlt,hmv];rfl
   have HN:=hid hnx
   clear hnx
   obtain⟨sv,hsv⟩:∃sv,sv=gY (l3.take k):=zE
   have hor:=or_bit ⟨sv,zo⟩ ⟨mv,Tl⟩
   simp only at hor
   have hq:wr.cell? ⟨w.heap.size+1,9,none⟩=some (int i64 sv):=by rw[hsv];exact hR.out.1.cell 9
   have kq:=cell_regrown hq
   have hlt1:=hR.out.1.lt
   have key:∀M:Nat,M≤64→IntKind.i64.wrap (M:Int)=(M:Int):=fun M h=>IntWalk.i64_in _ zo
   have hw2:IntKind.i64.wrap ((2:Int) ^ mv)=(2:Int) ^ mv:=by
    have e:(2:Int) ^ mv=((2 ^ mv:Nat):Int):=by push_cast;rfl
    rw[e]
    exact key _ (Nat.le_trans (Nat.pow_le_pow_right zD (show mv≤6 by omega)) zD)
   clear key
   have em:min mv 64=mv:=Nat.min_eq_left zo
   have HSV:=hid hsv
   clear hsv hq
   gi_wp2
   refine aJ 6 rfl zk zk ?_
   simp only[List.take_succ_cons,List.take_zero,List.drop_succ_cons,List.drop_zero]
   repeat (quiet_step_in (fail))
   refine wpQuietIn_nil ?_
   rintro w' ⟨⟨dq,osq⟩,rfl⟩
   have bg:=below_regrown wr dq osq
   clear kq
   generalize grow (redrawn wr dq) osq=w9 at bg⊢
   have V1:=hid (hR.out.1.below bg hR.out.1.lt)
   have V0:=hid (hR.out.2.1.below bg hR.out.2.1.lt)
   have hq:w9.cell? ⟨w.heap.size+1,9,none⟩=some (int i64 sv):=by rw[HSV.out];exact V1.out.cell 9
   have hqf:w9.frozen? ⟨w.heap.size+1,9,none⟩=false:=V1.out.thaw 9
   have uV:=hid bg
   clear bg
   gi_wp2
   go_roundw
   case rel=>
    refine⟨k+1,zo,by go_num,hid ⟨?_,V0.out.other (p:=⟨w.heap.size+1,9,none⟩) zs _,(hR.out.2.2.trans (uV.out.mono zo)).setCell (p:=⟨w.heap.size+1,9,none⟩) (Nat.le_succ _) _⟩⟩
    rw[HN.out,← HSV.out]
    exact V1.out.set 9 _
   case measure=>simp[intOf];omega
  ·obtain rfl:k=l3.length:=zo
   have q:∀i,wr.cell? ⟨w.heap.size+1,i,none⟩=(#[int i64 (fA 0),int i64 (fA 1),int i64 (fA 2),int i64 (fM 0),int i64 (fM 1),int i64 (fM 2),int i64 (fM 3),int i64 (fM 4),int i64 (fM 5),int i64 (gY l3:Nat)]:Array Value)[i]?:=by
    have:=hR.out.1
    rw[List.take_length] at this
    exact this.cell
   have z:=hR.out.2.1.cell
   have zf:=hR.out.2.1.thaw
   have hl0:=hR.out.2.1.lt
   gi_wp2
   have U:=((((((((((hR.out.2.1.set 0 (int i64 (fA 0))).set 1 (int i64 (fA 1))).set 2 (int i64 (fA 2))).set 3 (int i64 (fM 0))).set 4 (int i64 (fM 1))).set 5 (int i64 (fM 2))).set 6 (int i64 (fM 3))).set 7 (int i64 (fM 4))).set 8 (int i64 (fM 5))).set 9 (int i64 (gY l3:Nat)))
   have u0:=U.cell 0
   have u1:=U.cell 1
   have u2:=U.cell 2
   have u3:=U.cell 3
   have u4:=U.cell 4
   have u5:=U.cell 5
   have u6:=U.cell 6
   have u7:=U.cell 7
   have u8:=U.cell 8
   have u9:=U.cell 9
   clear q z zf
   refine bodyPost_ret (v:=.agg #[int i64 (fA 0),int i64 (fA 1),int i64 (fA 2),int i64 (fM 0),int i64 (fM 1),int i64 (fM 2),int i64 (fM 3),int i64 (fM 4),int i64 (fM 5),int i64 (gY l3:Nat)]) (by simp[results,results87,go_sem,u0,u1,u2,u3,u4,u5,u6,u7,u8,u9]) rfl ⟨by unfold iK;rw[← HFA.out,← HFM.out];rfl,((((((((((hR.out.2.2.setCell (p:=⟨w.heap.size,0,none⟩) zL _).setCell (p:=⟨w.heap.size,1,none⟩) zL _).setCell (p:=⟨w.heap.size,2,none⟩) zL _).setCell (p:=⟨w.heap.size,3,none⟩) zL _).setCell (p:=⟨w.heap.size,4,none⟩) zL _).setCell (p:=⟨w.heap.size,5,none⟩) zL _).setCell (p:=⟨w.heap.size,6,none⟩) zL _).setCell (p:=⟨w.heap.size,7,none⟩) zL _).setCell (p:=⟨w.heap.size,8,none⟩) zL _).setCell (p:=⟨w.heap.size,9,none⟩) zL _)⟩
end
section
open Go.RowKit
theorem Il:∀ (l:List Int) (s k:Nat),(∀x∈l,0≤x)→(l.foldl (fun s x=>s |||2 ^ x.toNat) s).testBit k=(s.testBit k || decide ((k:Int)∈l))
 | [],s,k,_=>zs
 | x :: l,s,k,h=>by
   have hx:=h x List.mem_cons_self
   rw[List.foldl_cons,Il l _ k (fun y hy=>h y (List.mem_cons_of_mem _ hy)),Nat.testBit_or,Nat.testBit_two_pow,Bool.or_assoc]
   congr 1
   by_cases hk:x.toNat=k
   ·have:(k:Int)=x:=zo
    simp[hk,this]
   ·have:¬ (k:Int)=x:=zo
    simp[hk,this]
theorem ln(l1 l2 l3:List Int)(k:Nat)(h:∀x∈l3,0≤x):(iK l1 l2 l3).Jz k=decide ((k:Int)∈l3):=by
 have:=Il l3 0 k h
 unfold Ht.Jz iK gY
 rw[Nat.testBit_eq_decide_div_mod_eq] at this
 rw[this]
 simp
open Classical in
theorem Dv(b:Bk)(l1 l2 l3:List Int)(h:∀x∈l3,0≤x)(d:Int)(g:Nat):∀k,stk b (iK l1 l2 l3) d k g=l1.getD g 0+((List.range k).map fun i=>if (b.m i).day≤d∧¬ (i:Int)∈l3 then PH b l2 g i else 0).sum
 | 0=>by simp[stk,iK]
 | Nat.succ k=>by
   have ih:=Dv b l1 l2 l3 h d g k
   rw[List.range_succ,List.map_append,List.sum_append,← Int.add_assoc,← ih]
   simp only[stk,List.map_cons,List.map_nil,List.sum_cons,List.sum_nil,Int.add_zero]
   by_cases hd:(b.m k).day≤d
   ·have hr:(iK l1 l2 l3).real k=if (k:Int)∈l3 then 0 else l2.getD k 0:=by
     unfold Ht.real
     rw[ln l1 l2 l3 k h]
     by_cases hm:(k:Int)∈l3 <;> simp[hm,iK]
    rw[if_pos hd]
    unfold Bh qv
    rw[hr]
    by_cases hm:(k:Int)∈l3
    ·simp[hm]
    ·simp only[hm,if_false,not_false_eq_true,and_true,hd,if_true]
     unfold PH
     by_cases hg:(b.m k).good=(g:Int) <;> simp[hg]
   ·simp[hd]
theorem I9(b:Bk)(l1 l2 l3:List Int)(h:∀x∈l3,0≤x)(d:Int)(g:Nat):stk b (iK l1 l2 l3) d b.nm g=wS b l1 l2 l3 g d:=Dv b l1 l2 l3 h d g b.nm
theorem Iq(b:Bk)(l1 l2 l3:List Int)(h:∀x∈l3,0≤x)(g:Nat):∀k,EN b (iK l1 l2 l3) k g=(List.range k).foldl (fun x (d:Nat)=>min x (wS b l1 l2 l3 g d)) (l1.getD g 0)
 | 0=>by simp[EN,iK]
 | Nat.succ k=>by
   rw[List.range_succ,List.foldl_append,← Iq b l1 l2 l3 h g k]
   simp only[EN,List.foldl_cons,List.foldl_nil]
   rw[I9 b l1 l2 l3 h]
theorem NH{b:Bk}{l1 l2 l3:List Int}(ok:b.Ok)(hp:wX b l1 l2 l3):pR (iK l1 l2 l3)∧(∀x∈l3,0≤x∧x<6)∧l3.length≤6:=by
 have h3:∀x∈l3,0≤x∧x<6:=fun x hx=>by
  obtain⟨i,rfl,hi,_⟩:=hp.came x hx
  have:=ok.moves.1
  omega
 have hl:l3.length≤6:=by
  have h6:(l3.map Int.toNat).Nodup:=by
   rw[List.nodup_iff_pairwise_ne,List.pairwise_map]
   refine hp.up.imp_of_mem ?_
   intro x y hx hy hxy e
   have:=h3 x hx
   have:=h3 y hy
   omega
  have h7:(l3.map Int.toNat) ⊆ List.range 6:=fun x hx=>by
   obtain⟨y,hy,rfl⟩:=List.mem_map.1 hx
   have:=h3 y hy
   simp;omega
  have:=uK _ _ h6 h7
  simpa using this
 refine⟨⟨fun i _=>?_,fun i _=>?_,EK l3 0 zD fun x hx=>by have:=h3 x hx;omega⟩,h3,hl⟩
 ·show 0≤l1.getD i 0∧l1.getD i 0≤99
  by_cases h:i<l1.length
  ·rw[show l1.getD i 0=l1[i] by simp[h]];exact hp.b1 _ (List.getElem_mem _)
  ·rw[show l1.getD i 0=0 by simp[show l1.length≤i by omega]];decide
 ·show 0≤l2.getD i 0∧l2.getD i 0≤99
  by_cases h:i<l2.length
  ·rw[show l2.getD i 0=l2[i] by simp[h]];exact hp.b2 _ (List.getElem_mem _)
  ·rw[show l2.getD i 0=0 by simp[show l2.length≤i by omega]];decide
end
section
open Go.RowKit Go.Sort
theorem yw(b:Bk)(l1 l2 l3:List Int)(w:World)(h:b.At w w.heap.size)(ok:b.Ok)(hcap:b.ng≤b.gc)(hp:wX b l1 l2 l3)(A1 A2 A3:Option Addr)(p1 p2 p3:Nat)
 (i1:Ints w w.heap.size A1 l1.length (fun i=>l1.getD i 0))(i2:Ints w w.heap.size A2 l2.length (fun i=>l2.getD i 0))(i3:Ints w w.heap.size A3 l3.length (fun i=>l3.getD i 0)):
 CallsIn FF 0 prog 46 #[b.val,.slice A1 l1.length p1,.slice A2 l2.length p2,.slice A3 l3.length p3] w fun e w'=>∃A n p,e=.returned (.tuple #[b.iz A n p,(iK l1 l2 l3).val,int i64 0])∧Below w.heap.size w w':=by
 have po:=NH ok hp
 have hC:∀w',Below w.heap.size w w'→CallsIn FF 0 prog 86 #[b.val,.slice A1 l1.length p1,.slice A2 l2.length p2,.slice A3 l3.length p3] w' fun e w2=>e=.returned (int i64 0)∧Below w'.heap.size w' w2:=fun w' hb=>
  Gp b l1 l2 l3 w' ((h.below hb).more hb.size) ok hp A1 A2 A3 p1 p2 p3 (bG i1 hb) (bG i2 hb) (bG i3 hb)
 have hH:∀w',Below w.heap.size w w'→CallsIn FF 0 prog 87 #[.slice A1 l1.length p1,.slice A2 l2.length p2,.slice A3 l3.length p3] w' fun e w2=>e=.returned (iK l1 l2 l3).val∧Below w'.heap.size w' w2:=fun w' hb=>
  H7 l1 l2 l3 w' A1 A2 A3 p1 p2 p3 (by rw[hp.n1];exact ok.bX.1.2) (by rw[hp.n2];exact ok.moves.1) po.2.2 po.2.1 (bG i1 hb) (bG i2 hb) (bG i3 hb)
 have hO:∀w',Below w.heap.size w w'→CallsIn FF 0 prog 37 #[b.val] w' fun e w2=>∃A n p,e=.returned (.tuple #[b.iz A n p,int i64 0])∧Below w'.heap.size w' w2:=fun w' hb=>
  (Vd b w' ((h.below hb).more hb.size) ok hcap).mono fun e w2 ⟨A,p,he,_,hb2⟩=>⟨A,_,p,he,hb2⟩
 obtain⟨dY,mO,gA,ng,gc,g,mA,nm,mc,m,cA,nc,cc,c⟩:=b
 obtain⟨n1,hn1⟩:∃n1,n1=l1.length:=zE
 obtain⟨n2,hn2⟩:∃n2,n2=l2.length:=zE
 obtain⟨n3,Rw⟩:∃n3,n3=l3.length:=zE
 rw[← hn1,← hn2,← Rw] at hC hH⊢
 obtain⟨ht,hht⟩:∃ht,ht=iK l1 l2 l3:=zE
 rw[← hht] at hH⊢
 clear hn1 hn2 Rw hht i1 i2 i3 po hp ok h hcap
 obtain⟨hf,hmm,lies⟩:=ht
 have vf:∀w',Below w.heap.size w w'→CallsIn FF 0 prog 37 #[.agg #[int i64 dY,int i64 mO,.slice gA ng gc,.slice mA nm mc,.slice cA nc cc]] w' fun e w2=>∃A n p,e=.returned (.tuple #[.agg #[int i64 dY,int i64 mO,.slice gA ng gc,.slice mA nm mc,.slice cA nc cc,.slice A n p],int i64 0])∧Below w'.heap.size w' w2:=hO
 simp only[Bk.val,Bk.cells,Ht.val,Ht.cells] at hC hH⊢
 have HC:=hid hC
 have HH:=hid hH
 have HO:=hid vf
 clear hC hH hO vf
 obtain⟨w3,hw3⟩:∃w3,w3=((w.alloc (.cells #[int i64 dY,int i64 mO,.slice gA ng gc,.slice mA nm mc,.slice cA nc cc] 26)).alloc (.cells #[int i64 0,int i64 0,.slice none 0 0,.slice none 0 0,.slice none 0 0,.slice none 0 0] 75)).alloc (.cells #[int i64 0,int i64 0,int i64 0,int i64 0,int i64 0,int i64 0,int i64 0,int i64 0,int i64 0,int i64 0] 91):=zE
 have W0:Whole w3 w.heap.size 26 #[int i64 dY,int i64 mO,.slice gA ng gc,.slice mA nm mc,.slice cA nc cc]:=by rw[hw3];exact((Whole.new w _ _).alloc _).alloc _
 have W1:Whole w3 (w.heap.size+1) 75 #[int i64 0,int i64 0,.slice none 0 0,.slice none 0 0,.slice none 0 0,.slice none 0 0]:=by
  have:=(Whole.new (w.alloc (.cells #[int i64 dY,int i64 mO,.slice gA ng gc,.slice mA nm mc,.slice cA nc cc] 26)) 75 #[int i64 0,int i64 0,.slice none 0 0,.slice none 0 0,.slice none 0 0,.slice none 0 0]).alloc (.cells #[int i64 0,int i64 0,int i64 0,int i64 0,int i64 0,int i64 0,int i64 0,int i64 0,int i64 0,int i64 0] 91)
  rw[World.size_alloc] at this;rw[hw3];exact this
 have W2:Whole w3 (w.heap.size+1+1) 91 #[int i64 0,int i64 0,int i64 0,int i64 0,int i64 0,int i64 0,int i64 0,int i64 0,int i64 0,int i64 0]:=by
  have:=Whole.new ((w.alloc (.cells #[int i64 dY,int i64 mO,.slice gA ng gc,.slice mA nm mc,.slice cA nc cc] 26)).alloc (.cells #[int i64 0,int i64 0,.slice none 0 0,.slice none 0 0,.slice none 0 0,.slice none 0 0] 75)) 91 #[int i64 0,int i64 0,int i64 0,int i64 0,int i64 0,int i64 0,int i64 0,int i64 0,int i64 0,int i64 0]
  rw[World.size_alloc,World.size_alloc] at this;rw[hw3];exact this
 have WB:Below w.heap.size w w3:=by rw[hw3];exact bw
 have p7:=hid hw3
 have V1:=hid W1
 have V2:=hid W2
 have VB:=hid WB
 clear hw3 W0 W1 W2 WB
 gi_enter func46,ntmps46
 gi_wp2_with (first
  | (gi_at_call 37;rw[← p7.out];refine(HO.out _ VB.out).mono ?_;rintro e w5 ⟨A5,n5,p5,rfl,hb5⟩;have FX:=hid hb5;clear hb5;have Hc:=hid (Whole.new w5 75 #[int i64 dY,int i64 mO,.slice gA ng gc,.slice mA nm mc,.slice cA nc cc,.slice A5 n5 p5]);have hs5:=FX.out.size)
  | (gi_at_call 86;refine(HC.out _ (VB.out.trans ((FX.out.mono VB.out.size).trans ((zB.alloc zL _).mono (Nat.le_trans VB.out.size FX.out.size))))).mono ?_;rintro e w7 ⟨rfl,vo⟩;have HB7:=hid vo;clear vo))
 have hs3:w.heap.size+1+1<w3.heap.size:=V2.out.lt
 have Xh:Hid (Below w3.heap.size w3 w7):=hid (FX.out.trans ((((Below.refl _ w5).alloc zL _).mono hs5).trans (HB7.out.mono zm)))
 have C7:=hid (Hc.out.below HB7.out zs)
 have kc:=fun i=>C7.out.cell i
 have k0:=cell_regrown (C7.out.cell 0)
 have k1:=cell_regrown (C7.out.cell 1)
 have k2:=cell_regrown (C7.out.cell 2)
 have k3:=cell_regrown (C7.out.cell 3)
 have k4:=cell_regrown (C7.out.cell 4)
 have k5:=cell_regrown (C7.out.cell 5)
 clear kc
 have cH:∀d os,CallsIn FF 0 prog 87 #[.slice A1 n1 p1,.slice A2 n2 p2,.slice A3 n3 p3] (grow (redrawn w7 d) os) fun e w''=>e=.returned (.agg #[int i64 (hf 0),int i64 (hf 1),int i64 (hf 2),int i64 (hmm 0),int i64 (hmm 1),int i64 (hmm 2),int i64 (hmm 3),int i64 (hmm 4),int i64 (hmm 5),int i64 lies])∧∃p:Regrown,w''=grow (redrawn w7 p.d) p.os:=fun d os=>CallsIn.regrown_of (HH.out _ ((VB.out.trans (Xh.out.mono VB.out.size)).trans ((below_regrown w7 d os).mono (Nat.le_trans VB.out.size Xh.out.size))))
 refine aJ 5 rfl zk zk ?_
 simp only[List.take_succ_cons,List.take_zero,List.drop_succ_cons,List.drop_zero]
 repeat (quiet_step_in (exact cH _ _))
 refine wpQuietIn_nil ?_
 rintro w' ⟨⟨dq,osq⟩,rfl⟩
 have bg:=below_regrown w7 dq osq
 clear k0 k1 k2 k3 k4 k5 cH
 generalize grow (redrawn w7 dq) osq=w9 at bg⊢
 have fw:Hid (Below w3.heap.size w3 w9):=hid (Xh.out.trans (bg.mono Xh.out.size))
 have X1:=hid (V1.out.below fw.out V1.out.lt)
 have X2:=hid (V2.out.below fw.out V2.out.lt)
 have X9:Hid (Below w.heap.size w w9):=hid (VB.out.trans (fw.out.mono VB.out.size))
 have x1:=X1.out.cell
 have f1:=X1.out.thaw
 have x2:=X2.out.cell
 have f2:=X2.out.thaw
 have t1:=X1.out.lt
 have t2:=X2.out.lt
 clear bg hs3 hs5
 gi_wp2
 have hne:w.heap.size+1+1≠w.heap.size+1:=zo
 have hne':w.heap.size+1≠w.heap.size+1+1:=zo
 have h1:w.heap.size≤w.heap.size+1:=zo
 have h2:w.heap.size≤w.heap.size+1+1:=zo
 have U1:=((((((((((((((((X1.out.set 0 (int i64 dY)).set 1 (int i64 mO)).set 2 (.slice gA ng gc)).set 3 (.slice mA nm mc)).set 4 (.slice cA nc cc)).set 5 (.slice A5 n5 p5)).other (p:=⟨w.heap.size+1+1,0,none⟩) hne' (int i64 (hf 0))).other (p:=⟨w.heap.size+1+1,1,none⟩) hne' (int i64 (hf 1))).other (p:=⟨w.heap.size+1+1,2,none⟩) hne' (int i64 (hf 2))).other (p:=⟨w.heap.size+1+1,3,none⟩) hne' (int i64 (hmm 0))).other (p:=⟨w.heap.size+1+1,4,none⟩) hne' (int i64 (hmm 1))).other (p:=⟨w.heap.size+1+1,5,none⟩) hne' (int i64 (hmm 2))).other (p:=⟨w.heap.size+1+1,6,none⟩) hne' (int i64 (hmm 3))).other (p:=⟨w.heap.size+1+1,7,none⟩) hne' (int i64 (hmm 4))).other (p:=⟨w.heap.size+1+1,8,none⟩) hne' (int i64 (hmm 5))).other (p:=⟨w.heap.size+1+1,9,none⟩) hne' (int i64 lies))
 have U2:=((((((((((((((((X2.out.other (p:=⟨w.heap.size+1,0,none⟩) hne (int i64 dY)).other (p:=⟨w.heap.size+1,1,none⟩) hne (int i64 mO)).other (p:=⟨w.heap.size+1,2,none⟩) hne (.slice gA ng gc)).other (p:=⟨w.heap.size+1,3,none⟩) hne (.slice mA nm mc)).other (p:=⟨w.heap.size+1,4,none⟩) hne (.slice cA nc cc)).other (p:=⟨w.heap.size+1,5,none⟩) hne (.slice A5 n5 p5)).set 0 (int i64 (hf 0))).set 1 (int i64 (hf 1))).set 2 (int i64 (hf 2))).set 3 (int i64 (hmm 0))).set 4 (int i64 (hmm 1))).set 5 (int i64 (hmm 2))).set 6 (int i64 (hmm 3))).set 7 (int i64 (hmm 4))).set 8 (int i64 (hmm 5))).set 9 (int i64 lies))
 have UB:=((((((((((((((((X9.out.setCell (p:=⟨w.heap.size+1,0,none⟩) h1 (int i64 dY)).setCell (p:=⟨w.heap.size+1,1,none⟩) h1 (int i64 mO)).setCell (p:=⟨w.heap.size+1,2,none⟩) h1 (.slice gA ng gc)).setCell (p:=⟨w.heap.size+1,3,none⟩) h1 (.slice mA nm mc)).setCell (p:=⟨w.heap.size+1,4,none⟩) h1 (.slice cA nc cc)).setCell (p:=⟨w.heap.size+1,5,none⟩) h1 (.slice A5 n5 p5)).setCell (p:=⟨w.heap.size+1+1,0,none⟩) h2 (int i64 (hf 0))).setCell (p:=⟨w.heap.size+1+1,1,none⟩) h2 (int i64 (hf 1))).setCell (p:=⟨w.heap.size+1+1,2,none⟩) h2 (int i64 (hf 2))).setCell (p:=⟨w.heap.size+1+1,3,none⟩) h2 (int i64 (hmm 0))).setCell (p:=⟨w.heap.size+1+1,4,none⟩) h2 (int i64 (hmm 1))).setCell (p:=⟨w.heap.size+1+1,5,none⟩) h2 (int i64 (hmm 2))).setCell (p:=⟨w.heap.size+1+1,6,none⟩) h2 (int i64 (hmm 3))).setCell (p:=⟨w.heap.size+1+1,7,none⟩) h2 (int i64 (hmm 4))).setCell (p:=⟨w.heap.size+1+1,8,none⟩) h2 (int i64 (hmm 5))).setCell (p:=⟨w.heap.size+1+1,9,none⟩) h2 (int i64 lies))
 have q0:=U1.cell 0
 have q1:=U1.cell 1
 have q2:=U1.cell 2
 have q3:=U1.cell 3
 have q4:=U1.cell 4
 have q5:=U1.cell 5
 have r0:=U2.cell 0
 have r1:=U2.cell 1
 have r2:=U2.cell 2
 have r3:=U2.cell 3
 have r4:=U2.cell 4
 have r5:=U2.cell 5
 have r6:=U2.cell 6
 have r7:=U2.cell 7
 have r8:=U2.cell 8
 have r9:=U2.cell 9
 clear x1 f1 x2 f2 t1 t2 U1 U2
 refine bodyPost_ret (v:=.tuple #[.agg #[int i64 dY,int i64 mO,.slice gA ng gc,.slice mA nm mc,.slice cA nc cc,.slice A5 n5 p5],.agg #[int i64 (hf 0),int i64 (hf 1),int i64 (hf 2),int i64 (hmm 0),int i64 (hmm 1),int i64 (hmm 2),int i64 (hmm 3),int i64 (hmm 4),int i64 (hmm 5),int i64 lies],int i64 0]) (by simp[results,results46,go_sem,q0,q1,q2,q3,q4,q5,r0,r1,r2,r3,r4,r5,r6,r7,r8,r9]) rfl ⟨A5,n5,p5,rfl,UB⟩
end
end Go.Proofs.YtpmafoalhnaokaaGreat
