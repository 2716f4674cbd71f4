/- HA1 HA2 P14 -/
import Derived.Test.YthaelabgfnnebaaGreatE3
import Derived.Sort.MapsRangeIn
set_option maxRecDepth 100000
set_option maxHeartbeats 16000000
set_option linter.unusedVariables false
set_option linter.unusedSectionVars false
open Go.IntKind(i64)
open Go.Lib(hid)
open Go.Proofs.Tryz
open Go.Value(int)
namespace Go.Proofs.YthaelabgfnnebaaGreat
section
open Go.RowKit Go.Maps
open Go.Sort (grow)
attribute [local go_sem] Oper.semAt_some
noncomputable def oS:List Lit:=[dZ 0 4,dZ 0 5,dZ 1 5,dZ 2 0]
noncomputable def DT:DataW Unit:=.map [(dZ 0 4,.lit (.int .i64 2)),(dZ 0 5,.lit (.int .i64 2)),(dZ 1 5,.lit (.int .i64 4)),(dZ 2 0,.lit (.int .i64 4))]
theorem WG:(dZ 0 4).sameKey (dZ 0 4)=true:=zk
theorem WH:(dZ 0 4).sameKey (dZ 0 5)=false:=zk
theorem WI:(dZ 0 4).sameKey (dZ 1 5)=false:=zk
theorem WJ:(dZ 0 4).sameKey (dZ 2 0)=false:=zk
theorem WK:(dZ 0 5).sameKey (dZ 0 4)=false:=zk
theorem WL:(dZ 0 5).sameKey (dZ 0 5)=true:=zk
theorem WM:(dZ 0 5).sameKey (dZ 1 5)=false:=zk
theorem WQ:(dZ 0 5).sameKey (dZ 2 0)=false:=zk
theorem WS:(dZ 1 5).sameKey (dZ 0 4)=false:=zk
theorem WT:(dZ 1 5).sameKey (dZ 0 5)=false:=zk
theorem WU:(dZ 1 5).sameKey (dZ 1 5)=true:=zk
theorem WV:(dZ 1 5).sameKey (dZ 2 0)=false:=zk
theorem WX:(dZ 2 0).sameKey (dZ 0 4)=false:=zk
theorem WY:(dZ 2 0).sameKey (dZ 0 5)=false:=zk
theorem WZ:(dZ 2 0).sameKey (dZ 1 5)=false:=zk
theorem Xa:(dZ 2 0).sameKey (dZ 2 0)=true:=zk
theorem xi:DT.atKey (dZ 0 4) (.map [])=.lit (.int .i64 2):=zk
theorem xj:DT.atKey (dZ 0 5) (.map [])=.lit (.int .i64 2):=zk
theorem xl:DT.atKey (dZ 1 5) (.map [])=.lit (.int .i64 4):=zk
theorem xm:DT.atKey (dZ 2 0) (.map [])=.lit (.int .i64 4):=zk
theorem yl(kl:Lit)(h:Maps.has DT kl=true):kl∈oS:=by
 unfold DT Maps.has at h
 simp only[List.any_cons,List.any_nil,Bool.or_eq_true,Bool.or_false] at h
 unfold oS
 rcases h with h|h|h|h <;> (have:=WideAt.sameKey_eq h;subst this;simp)
theorem mj:Maps.has DT (dZ 0 4)=true:=zk
theorem ml:Maps.has DT (dZ 0 5)=true:=zk
theorem mn:Maps.has DT (dZ 1 5)=true:=zk
theorem mr:Maps.has DT (dZ 2 0)=true:=zk
theorem XZ(x c:Value)(kl:Lit)(y:DataW Unit × List MemPlace)(hkey:keyOf prog 135 x=some kl)(hl:kl∈oS)(hR:plainElem prog 3 c=some y)(hat:∀zd,DT.atKey kl zd=y.1):
 (kl=dZ 0 4∧x=.agg #[int i64 0,int i64 4]∧c=int i64 2)∨(kl=dZ 0 5∧x=.agg #[int i64 0,int i64 5]∧c=int i64 2)∨(kl=dZ 1 5∧x=.agg #[int i64 1,int i64 5]∧c=int i64 4)∨(kl=dZ 2 0∧x=.agg #[int i64 2,int i64 0]∧c=int i64 4):=by
 obtain⟨a,rfl,rfl,-⟩:=plainElem_int_inv underlying3 hR
 have h0:=hat (.map [])
 unfold oS at hl
 simp only[List.mem_cons,List.not_mem_nil,or_false] at hl
 rcases hl with hl|hl|hl|hl
 ·refine .inl ?_
  rw[hl] at h0 hkey
  rw[xi] at h0
  injection h0 with h0
  injection h0 with _ h0
  exact⟨hl,dQ.inj hkey oA,by rw[h0]⟩
 ·refine .inr (.inl ?_)
  rw[hl] at h0 hkey
  rw[xj] at h0
  injection h0 with h0
  injection h0 with _ h0
  exact⟨hl,dQ.inj hkey oB,by rw[h0]⟩
 ·refine .inr (.inr (.inl ?_))
  rw[hl] at h0 hkey
  rw[xl] at h0
  injection h0 with h0
  injection h0 with _ h0
  exact⟨hl,dQ.inj hkey oE,by rw[h0]⟩
 ·refine .inr (.inr (.inr ?_))
  rw[hl] at h0 hkey
  rw[xm] at h0
  injection h0 with h0
  injection h0 with _ h0
  exact⟨hl,dQ.inj hkey oR,by rw[h0]⟩
def NK(a b:Bool):Int:=max (if a then 0 else 2) (if b then 0 else 2)
def Pw(a:Bool):Int:=if a then 0 else 4
theorem la(G M C:Nat)(A:Option Addr)(p:Nat)(w:World)(hc:mZ (Tb 1 G M C) A w):CallsIn FF 0 prog 67 #[.agg (aA (Tb 1 G M C) A (ak (Tb 1 G M C)).length p)] w fun e w'=>e=.returned (.tuple #[int i64 0,int i64 2])∧Below w.heap.size w w':=by
 have HR:Hid (∀W,Below w.heap.size w W→CallsIn FF 0 prog 92 #[.agg (aA (Tb 1 G M C) A (ak (Tb 1 G M C)).length p)] W fun e w'=>∃M n,e=.returned (.tuple #[int i64 4,.map (some M)])∧n≤12∧yu w' M n DT∧W.heap.size≤M∧Below W.heap.size W w'):=hid fun W hW=>by
  have:=Wy (Tb 1 G M C) (jT 1 zD G M C) (eY 1 G M C) (by rw[kW];decide) (vT G M C) rfl dZ (eN G M C) A p W (hc.below hW)
  rw[kW,XP] at this
  exact this
 obtain⟨n,hn⟩:∃n,n=(ak (Tb 1 G M C)).length:=⟨_,rfl⟩
 rw[← hn] at HR⊢
 clear hn hc
 simp only[Tb,aA] at HR⊢
 obtain⟨w1,hw1⟩:∃w1,w1=w.alloc (.cells #[int i64 10,int i64 1,.slice (some ⟨G,0,none⟩) 2 2,.slice (some ⟨M,0,none⟩) 4 4,.slice (some ⟨C,0,none⟩) 2 2,.slice A n p] 76):=⟨_,rfl⟩
 have B1:Hid (Below w.heap.size w w1):=hid (by rw[hw1];exact bw)
 have C1:Hid (Whole w1 w.heap.size 76 #[int i64 10,int i64 1,.slice (some ⟨G,0,none⟩) 2 2,.slice (some ⟨M,0,none⟩) 4 4,.slice (some ⟨C,0,none⟩) 2 2,.slice A n p]):=hid (by rw[hw1];exact Whole.new _ _ _)
 have lT:=hid hw1
 clear hw1
 gi_enter func67,ntmps67
 gi_wp2_with (first
  | (gi_at_call 92;rw[← lT.out];refine(HR.out w1 B1.out).mono ?_;rintro e w2 ⟨Mp,nn,rfl,hn2,hO2,hM2,hb2⟩;have VV:=hO2.lt;have O2:=hid (hO2.alloc (.cells #[int i64 0,int i64 0,int i64 0] 85));clear hO2)
  | (gi_at_range;refine wpListIn_range_own _ rfl _ 131 rfl 135 3 dQ underlying131 _ Mp nn _ rfl O2.out ?_;intro w3 hrg3 hg3 hs3))
 go_frame
 simp only[World.size_alloc]
 have C3:Hid (Whole w3 w.heap.size 76 #[int i64 10,int i64 1,.slice (some ⟨G,0,none⟩) 2 2,.slice (some ⟨M,0,none⟩) 4 4,.slice (some ⟨C,0,none⟩) 2 2,.slice A n p]):=hid (((C1.out.below hb2 C1.out.lt).alloc _).grown hg3 zs)
 have N3:Hid (Whole w3 w2.heap.size 85 #[int i64 0,int i64 0,int i64 0]):=hid ((Whole.new w2 _ _).grown hg3 zs)
 have HB3:Hid (Below w.heap.size w w3):=hid ((Below.al (Below.next B1.out hb2) _).trans (below_grown hg3 (by have:=(Below.next B1.out hb2).size;simp;omega) (fun g hg=>by cases hg)))
 have hM0:=hM2
 have Mn:=O2.out.lt
 have Np:=hb2.size
 have aal:=C1.out.lt
 simp only[World.size_alloc] at hs3 Mn hrg3
 have VS:Mp<w2.heap.size+1:=Mn
 have SO:=hid hrg3
 clear hrg3 hg3 O2 HR C1 B1 hb2 lT
 gi_loopw [] (fun wr=>∃ (left:Lit→Bool) (cnt:Nat),wr.ranges prog 135 (plainElem prog 3) Mp (w2.heap.size+1) nn DT left cnt∧(∀kl,left kl=true→kl∈oS)∧Hid (Whole wr w2.heap.size 85 #[int i64 (NK (left (dZ 0 4)) (left (dZ 0 5))),int i64 (Pw (left (dZ 1 5))),int i64 (Pw (left (dZ 2 0)))]∧Whole wr w.heap.size 76 #[int i64 10,int i64 1,.slice (some ⟨G,0,none⟩) 2 2,.slice (some ⟨M,0,none⟩) 4 4,.slice (some ⟨C,0,none⟩) 2 2,.slice A n p]∧Below w.heap.size w wr))
  (fun wr=>wr.rangeLeft Mp (w2.heap.size+1))
 case atStart=>
  refine⟨Maps.has DT,Maps.size DT,SO.out,yl,hid ⟨?_,C3.out,HB3.out⟩⟩
  rw[mj,ml,mn,mr]
  exact N3.out
 case round=>
  obtain⟨left,cnt,hrg,hks,hW⟩:=hrel
  gi_wp2_with (gi_at_next;refine wpListIn_next_ranges _ rfl _ rfl 135 dQ (plainElem prog 3) id id (fun key _ _=>⟨key,rfl⟩) (fun v _ _=>⟨v,rfl⟩) Mp (w2.heap.size+1) nn _ _ _ rfl hrg ?_ ?_)
  ·intro hc0 hl0
   have N9:Whole wr w2.heap.size 85 #[int i64 2,int i64 4,int i64 4]:=by
    have:=hW.out.1
    rw[hl0,hl0,hl0,hl0] at this
    exact this
   have i4:=hid (UY w2.heap.size wr (N9.cell 0) (N9.cell 1))
   have d0:wr.cell? ⟨w.heap.size,0,none⟩=some (int i64 10):=hW.out.2.1.cell 0
   have d1:wr.cell? ⟨w.heap.size,1,none⟩=some (int i64 1):=hW.out.2.1.cell 1
   have d2:wr.cell? ⟨w.heap.size,2,none⟩=some (.slice (some ⟨G,0,none⟩) 2 2):=hW.out.2.1.cell 2
   have d3:wr.cell? ⟨w.heap.size,3,none⟩=some (.slice (some ⟨M,0,none⟩) 4 4):=hW.out.2.1.cell 3
   have d4:wr.cell? ⟨w.heap.size,4,none⟩=some (.slice (some ⟨C,0,none⟩) 2 2):=hW.out.2.1.cell 4
   have d5:wr.cell? ⟨w.heap.size,5,none⟩=some (.slice A n p):=hW.out.2.1.cell 5
   have tH:=hW.out.2.2
   clear N9 hl0 hrg hks
   gi_wp2_with (gi_at_call 93;refine i4.out.mono ?_;rintro e w5 ⟨rfl,rfl⟩)
   go_ret2
   exact⟨rfl,tH⟩
  ·intro x c kl yd yp w4 ET hkey hlk hv hat uK VG hg4 hs4 hen
   have hcase:=XZ x c kl (yd,yp) hkey (hks kl hlk) hv hat
   have N4:=hid (hW.out.1.grown hg4 zs)
   have C4:=hid (hW.out.2.1.grown hg4 zm)
   have Cr:Hid (Below w.heap.size w w4):=hid (hW.out.2.2.trans (below_grown hg4 (by have:=hW.out.2.1.lt;omega) (fun g hg=>by cases hg;omega)))
   have hn4:=N4.out.lt
   obtain⟨b0,hb0⟩:∃b,b=left (dZ 0 4):=⟨_,rfl⟩
   obtain⟨b1,hb1⟩:∃b,b=left (dZ 0 5):=⟨_,rfl⟩
   obtain⟨b2,hb2⟩:∃b,b=left (dZ 1 5):=⟨_,rfl⟩
   obtain⟨b3,hb3⟩:∃b,b=left (dZ 2 0):=⟨_,rfl⟩
   rw[← hb0,← hb1,← hb2,← hb3] at N4
   obtain⟨m0,hm0⟩:∃m,m=NK b0 b1:=⟨_,rfl⟩
   obtain⟨m1,hm1⟩:∃m,m=Pw b2:=⟨_,rfl⟩
   obtain⟨m2,hm2⟩:∃m,m=Pw b3:=⟨_,rfl⟩
   rw[← hm0,← hm1,← hm2] at N4
   have rp:Hid (wr.rangeLeft Mp (w2.heap.size+1)=cnt):=hid hrg.left_eq
   have Zl:=hid hks
   have HB:=hid (And.intro hb0 (And.intro hb1 (And.intro hb2 (And.intro hb3 (And.intro hm0 (And.intro hm1 hm2))))))
   clear hks hrg hkey hv hat hg4 hW hb0 hb1 hb2 hb3 hm0 hm1 hm2
   rcases hcase with⟨hkl,rfl,rfl⟩|⟨hkl,rfl,rfl⟩|⟨hkl,rfl,rfl⟩|⟨hkl,rfl,rfl⟩
   ·rw[hkl] at uK hlk
    have Ij:=hid uK
    have Zm:=hid hlk
    clear uK hlk hkl
    obtain⟨W5,mX⟩:∃W5,W5=w4.alloc (.cells #[int i64 0,int i64 4] 135):=⟨_,rfl⟩
    have X5:Whole W5 wr.heap.size 135 #[int i64 0,int i64 4]:=by rw[mX,← hs4];exact Whole.new _ _ _
    have N5:=hid (by rw[mX];exact N4.out.alloc _:Whole W5 w2.heap.size 85 #[int i64 m0,int i64 m1,int i64 m2])
    have C5:=hid (by rw[mX];exact C4.out.alloc _:Whole W5 w.heap.size 76 #[int i64 10,int i64 1,.slice (some ⟨G,0,none⟩) 2 2,.slice (some ⟨M,0,none⟩) 4 4,.slice (some ⟨C,0,none⟩) 2 2,.slice A n p])
    have Er:Hid (Below w.heap.size w W5):=hid (by rw[mX];exact Below.al Cr.out _)
    have R5:=hid (by rw[mX];exact Ij.out.alloc _:W5.ranges prog 135 (plainElem prog 3) Mp (w2.heap.size+1) nn DT (fun z=>left z && !z.sameKey (dZ 0 4)) ET)
    have x0:∀d os,(grow (redrawn W5 d) os).cell? ⟨wr.heap.size,0,none⟩=some (int i64 0):=cell_regrown (X5.cell 0)
    have q0:∀d os,(grow (redrawn W5 d) os).cell? ⟨w2.heap.size,0,none⟩=some (int i64 m0):=cell_regrown (N5.out.cell 0)
    have Zp:=hid mX
    clear mX X5
    gi_wp2
    rw[← Zp.out]
    refine aJ 8 rfl zk zk ?_
    repeat (quiet_step_in (fail))
    refine wpQuietIn_nil ?_
    rintro w' ⟨⟨dq,osq⟩,rfl⟩
    have bg:=below_regrown W5 dq osq
    clear x0 q0
    have N9:=N5.out.below bg N5.out.lt
    have C9:=hid (C5.out.below bg C5.out.lt)
    have tH:=hid (Below.next Er.out bg)
    have R9:=hid (R5.out.kept (w':=grow (redrawn W5 dq) osq) (row:=none) ⟨bg.os,bg.tape,bg.output,bg.size,fun i hi _=>bg.block i hi⟩ zs zs)
    simp only at N9 C9 tH R9⊢
    generalize grow (redrawn W5 dq) osq=w9 at N9 C9 tH R9⊢
    clear bg
    have n0:w9.cell? ⟨w2.heap.size,0,none⟩=some (int i64 m0):=N9.cell 0
    have nf:=N9.thaw
    have ZG:=hid N9
    clear N9
    gi_wp2
    go_roundw
    case rel=>
     obtain⟨hb0,hb1,hb2,hb3,hm0,hm1,hm2⟩:=HB.out
     have hlq:=Zm.out
     rw[← hb0] at hlq
     refine⟨fun z=>left z && !z.sameKey (dZ 0 4),ET,?_,fun kl h=>Zl.out kl (by simp only[Bool.and_eq_true] at h;exact h.1),hid ⟨?_,C9.out.other zn _,tH.out.setCell zn _⟩⟩
     ·exact R9.out.kept (row:=some w2.heap.size) ⟨rfl,rfl,rfl,by simp[World.setCell],fun i hi hne=>Below.heap_setCell _ _ _ _ (fun e=>hne (by rw[e]))⟩ zm zs
     ·dsimp only
      rw[WG,WK,WS,WX,← hb0,← hb1,← hb2,← hb3]
      have F:=ZG.out.set 0 (int i64 (max m0 2))
      have e0:NK (b0 && !true) (b1 && !false)=max m0 2:=by rw[hm0];cases b0 <;> cases b1 <;> first|decide|(cases hlq)
      have e1:Pw (b2 && !false)=m1:=by rw[hm1];cases b2 <;> first|decide|(cases hlq)
      have e2:Pw (b3 && !false)=m2:=by rw[hm2];cases b3 <;> first|decide|(cases hlq)
      rw[e0,e1,e2]
      exact F
    case measure=>
     have h1:=rp.out
     rw[h1]
     have h2:=(R9.out.kept (w':=w9.setCell ⟨w2.heap.size,0,none⟩ (int i64 (max m0 2))) (row:=some w2.heap.size) ⟨rfl,rfl,rfl,by simp[World.setCell],fun i hi hne=>Below.heap_setCell _ _ _ _ (fun e=>hne (by rw[e]))⟩ zm zs).left_eq
     rw[h2]
     exact VG
   ·rw[hkl] at uK hlk
    have Ij:=hid uK
    have Zm:=hid hlk
    clear uK hlk hkl
    obtain⟨W5,mX⟩:∃W5,W5=w4.alloc (.cells #[int i64 0,int i64 5] 135):=⟨_,rfl⟩
    have X5:Whole W5 wr.heap.size 135 #[int i64 0,int i64 5]:=by rw[mX,← hs4];exact Whole.new _ _ _
    have N5:=hid (by rw[mX];exact N4.out.alloc _:Whole W5 w2.heap.size 85 #[int i64 m0,int i64 m1,int i64 m2])
    have C5:=hid (by rw[mX];exact C4.out.alloc _:Whole W5 w.heap.size 76 #[int i64 10,int i64 1,.slice (some ⟨G,0,none⟩) 2 2,.slice (some ⟨M,0,none⟩) 4 4,.slice (some ⟨C,0,none⟩) 2 2,.slice A n p])
    have Er:Hid (Below w.heap.size w W5):=hid (by rw[mX];exact Below.al Cr.out _)
    have R5:=hid (by rw[mX];exact Ij.out.alloc _:W5.ranges prog 135 (plainElem prog 3) Mp (w2.heap.size+1) nn DT (fun z=>left z && !z.sameKey (dZ 0 5)) ET)
    have x0:∀d os,(grow (redrawn W5 d) os).cell? ⟨wr.heap.size,0,none⟩=some (int i64 0):=cell_regrown (X5.cell 0)
    have q0:∀d os,(grow (redrawn W5 d) os).cell? ⟨w2.heap.size,0,none⟩=some (int i64 m0):=cell_regrown (N5.out.cell 0)
    have Zp:=hid mX
    clear mX X5
    gi_wp2
    rw[← Zp.out]
    refine aJ 8 rfl zk zk ?_
    repeat (quiet_step_in (fail))
    refine wpQuietIn_nil ?_
    rintro w' ⟨⟨dq,osq⟩,rfl⟩
    have bg:=below_regrown W5 dq osq
    clear x0 q0
    have N9:=N5.out.below bg N5.out.lt
    have C9:=hid (C5.out.below bg C5.out.lt)
    have tH:=hid (Below.next Er.out bg)
    have R9:=hid (R5.out.kept (w':=grow (redrawn W5 dq) osq) (row:=none) ⟨bg.os,bg.tape,bg.output,bg.size,fun i hi _=>bg.block i hi⟩ zs zs)
    simp only at N9 C9 tH R9⊢
    generalize grow (redrawn W5 dq) osq=w9 at N9 C9 tH R9⊢
    clear bg
    have n0:w9.cell? ⟨w2.heap.size,0,none⟩=some (int i64 m0):=N9.cell 0
    have nf:=N9.thaw
    have ZG:=hid N9
    clear N9
    gi_wp2
    go_roundw
    case rel=>
     obtain⟨hb0,hb1,hb2,hb3,hm0,hm1,hm2⟩:=HB.out
     have hlq:=Zm.out
     rw[← hb1] at hlq
     refine⟨fun z=>left z && !z.sameKey (dZ 0 5),ET,?_,fun kl h=>Zl.out kl (by simp only[Bool.and_eq_true] at h;exact h.1),hid ⟨?_,C9.out.other zn _,tH.out.setCell zn _⟩⟩
     ·exact R9.out.kept (row:=some w2.heap.size) ⟨rfl,rfl,rfl,by simp[World.setCell],fun i hi hne=>Below.heap_setCell _ _ _ _ (fun e=>hne (by rw[e]))⟩ zm zs
     ·dsimp only
      rw[WH,WL,WT,WY,← hb0,← hb1,← hb2,← hb3]
      have F:=ZG.out.set 0 (int i64 (max m0 2))
      have e0:NK (b0 && !false) (b1 && !true)=max m0 2:=by rw[hm0];cases b0 <;> cases b1 <;> first|decide|(cases hlq)
      have e1:Pw (b2 && !false)=m1:=by rw[hm1];cases b2 <;> first|decide|(cases hlq)
      have e2:Pw (b3 && !false)=m2:=by rw[hm2];cases b3 <;> first|decide|(cases hlq)
      rw[e0,e1,e2]
      exact F
    case measure=>
     have h1:=rp.out
     rw[h1]
     have h2:=(R9.out.kept (w':=w9.setCell ⟨w2.heap.size,0,none⟩ (int i64 (max m0 2))) (row:=some w2.heap.size) ⟨rfl,rfl,rfl,by simp[World.setCell],fun i hi hne=>Below.heap_setCell _ _ _ _ (fun e=>hne (by rw[e]))⟩ zm zs).left_eq
     rw[h2]
     exact VG
   ·rw[hkl] at uK hlk
    have Ij:=hid uK
    have Zm:=hid hlk
    clear uK hlk hkl
    obtain⟨W5,mX⟩:∃W5,W5=w4.alloc (.cells #[int i64 1,int i64 5] 135):=⟨_,rfl⟩
    have X5:Whole W5 wr.heap.size 135 #[int i64 1,int i64 5]:=by rw[mX,← hs4];exact Whole.new _ _ _
    have N5:=hid (by rw[mX];exact N4.out.alloc _:Whole W5 w2.heap.size 85 #[int i64 m0,int i64 m1,int i64 m2])
    have C5:=hid (by rw[mX];exact C4.out.alloc _:Whole W5 w.heap.size 76 #[int i64 10,int i64 1,.slice (some ⟨G,0,none⟩) 2 2,.slice (some ⟨M,0,none⟩) 4 4,.slice (some ⟨C,0,none⟩) 2 2,.slice A n p])
    have Er:Hid (Below w.heap.size w W5):=hid (by rw[mX];exact Below.al Cr.out _)
    have R5:=hid (by rw[mX];exact Ij.out.alloc _:W5.ranges prog 135 (plainElem prog 3) Mp (w2.heap.size+1) nn DT (fun z=>left z && !z.sameKey (dZ 1 5)) ET)
    have x0:∀d os,(grow (redrawn W5 d) os).cell? ⟨wr.heap.size,0,none⟩=some (int i64 1):=cell_regrown (X5.cell 0)
    have q0:∀d os,(grow (redrawn W5 d) os).cell? ⟨w2.heap.size,1,none⟩=some (int i64 m1):=cell_regrown (N5.out.cell 1)
    have Zp:=hid mX
    clear mX X5
    gi_wp2
    rw[← Zp.out]
    refine aJ 8 rfl zk zk ?_
    repeat (quiet_step_in (fail))
    refine wpQuietIn_nil ?_
    rintro w' ⟨⟨dq,osq⟩,rfl⟩
    have bg:=below_regrown W5 dq osq
    clear x0 q0
    have N9:=N5.out.below bg N5.out.lt
    have C9:=hid (C5.out.below bg C5.out.lt)
    have tH:=hid (Below.next Er.out bg)
    have R9:=hid (R5.out.kept (w':=grow (redrawn W5 dq) osq) (row:=none) ⟨bg.os,bg.tape,bg.output,bg.size,fun i hi _=>bg.block i hi⟩ zs zs)
    simp only at N9 C9 tH R9⊢
    generalize grow (redrawn W5 dq) osq=w9 at N9 C9 tH R9⊢
    clear bg
    have n0:w9.cell? ⟨w2.heap.size,1,none⟩=some (int i64 m1):=N9.cell 1
    have nf:=N9.thaw
    have ZG:=hid N9
    clear N9
    gi_wp2
    go_roundw
    case rel=>
     obtain⟨hb0,hb1,hb2,hb3,hm0,hm1,hm2⟩:=HB.out
     have hlq:=Zm.out
     rw[← hb2] at hlq
     refine⟨fun z=>left z && !z.sameKey (dZ 1 5),ET,?_,fun kl h=>Zl.out kl (by simp only[Bool.and_eq_true] at h;exact h.1),hid ⟨?_,C9.out.other zn _,tH.out.setCell zn _⟩⟩
     ·exact R9.out.kept (row:=some w2.heap.size) ⟨rfl,rfl,rfl,by simp[World.setCell],fun i hi hne=>Below.heap_setCell _ _ _ _ (fun e=>hne (by rw[e]))⟩ zm zs
     ·dsimp only
      rw[WI,WM,WU,WZ,← hb0,← hb1,← hb2,← hb3]
      have F:=ZG.out.set 1 (int i64 (max m1 4))
      have e0:NK (b0 && !false) (b1 && !false)=m0:=by rw[hm0];cases b0 <;> cases b1 <;> first|decide|(cases hlq)
      have e1:Pw (b2 && !true)=max m1 4:=by rw[hm1];cases b2 <;> first|decide|(cases hlq)
      have e2:Pw (b3 && !false)=m2:=by rw[hm2];cases b3 <;> first|decide|(cases hlq)
      rw[e0,e1,e2]
      exact F
    case measure=>
     have h1:=rp.out
     rw[h1]
     have h2:=(R9.out.kept (w':=w9.setCell ⟨w2.heap.size,1,none⟩ (int i64 (max m1 4))) (row:=some w2.heap.size) ⟨rfl,rfl,rfl,by simp[World.setCell],fun i hi hne=>Below.heap_setCell _ _ _ _ (fun e=>hne (by rw[e]))⟩ zm zs).left_eq
     rw[h2]
     exact VG
   ·rw[hkl] at uK hlk
    have Ij:=hid uK
    have Zm:=hid hlk
    clear uK hlk hkl
    obtain⟨W5,mX⟩:∃W5,W5=w4.alloc (.cells #[int i64 2,int i64 0] 135):=⟨_,rfl⟩
    have X5:Whole W5 wr.heap.size 135 #[int i64 2,int i64 0]:=by rw[mX,← hs4];exact Whole.new _ _ _
    have N5:=hid (by rw[mX];exact N4.out.alloc _:Whole W5 w2.heap.size 85 #[int i64 m0,int i64 m1,int i64 m2])
    have C5:=hid (by rw[mX];exact C4.out.alloc _:Whole W5 w.heap.size 76 #[int i64 10,int i64 1,.slice (some ⟨G,0,none⟩) 2 2,.slice (some ⟨M,0,none⟩) 4 4,.slice (some ⟨C,0,none⟩) 2 2,.slice A n p])
    have Er:Hid (Below w.heap.size w W5):=hid (by rw[mX];exact Below.al Cr.out _)
    have R5:=hid (by rw[mX];exact Ij.out.alloc _:W5.ranges prog 135 (plainElem prog 3) Mp (w2.heap.size+1) nn DT (fun z=>left z && !z.sameKey (dZ 2 0)) ET)
    have x0:∀d os,(grow (redrawn W5 d) os).cell? ⟨wr.heap.size,0,none⟩=some (int i64 2):=cell_regrown (X5.cell 0)
    have q0:∀d os,(grow (redrawn W5 d) os).cell? ⟨w2.heap.size,2,none⟩=some (int i64 m2):=cell_regrown (N5.out.cell 2)
    have Zp:=hid mX
    clear mX X5
    gi_wp2
    rw[← Zp.out]
    refine aJ 8 rfl zk zk ?_
    repeat (quiet_step_in (fail))
    refine wpQuietIn_nil ?_
    rintro w' ⟨⟨dq,osq⟩,rfl⟩
    have bg:=below_regrown W5 dq osq
    clear x0 q0
    have N9:=N5.out.below bg N5.out.lt
    have C9:=hid (C5.out.below bg C5.out.lt)
    have tH:=hid (Below.next Er.out bg)
    have R9:=hid (R5.out.kept (w':=grow (redrawn W5 dq) osq) (row:=none) ⟨bg.os,bg.tape,bg.output,bg.size,fun i hi _=>bg.block i hi⟩ zs zs)
    simp only at N9 C9 tH R9⊢
    generalize grow (redrawn W5 dq) osq=w9 at N9 C9 tH R9⊢
    clear bg
    have n0:w9.cell? ⟨w2.heap.size,2,none⟩=some (int i64 m2):=N9.cell 2
    have nf:=N9.thaw
    have ZG:=hid N9
    clear N9
    gi_wp2
    go_roundw
    case rel=>
     obtain⟨hb0,hb1,hb2,hb3,hm0,hm1,hm2⟩:=HB.out
     have hlq:=Zm.out
     rw[← hb3] at hlq
     refine⟨fun z=>left z && !z.sameKey (dZ 2 0),ET,?_,fun kl h=>Zl.out kl (by simp only[Bool.and_eq_true] at h;exact h.1),hid ⟨?_,C9.out.other zn _,tH.out.setCell zn _⟩⟩
     ·exact R9.out.kept (row:=some w2.heap.size) ⟨rfl,rfl,rfl,by simp[World.setCell],fun i hi hne=>Below.heap_setCell _ _ _ _ (fun e=>hne (by rw[e]))⟩ zm zs
     ·dsimp only
      rw[WJ,WQ,WV,Xa,← hb0,← hb1,← hb2,← hb3]
      have F:=ZG.out.set 2 (int i64 (max m2 4))
      have e0:NK (b0 && !false) (b1 && !false)=m0:=by rw[hm0];cases b0 <;> cases b1 <;> first|decide|(cases hlq)
      have e1:Pw (b2 && !false)=m1:=by rw[hm1];cases b2 <;> first|decide|(cases hlq)
      have e2:Pw (b3 && !true)=max m2 4:=by rw[hm2];cases b3 <;> first|decide|(cases hlq)
      rw[e0,e1,e2]
      exact F
    case measure=>
     have h1:=rp.out
     rw[h1]
     have h2:=(R9.out.kept (w':=w9.setCell ⟨w2.heap.size,2,none⟩ (int i64 (max m2 4))) (row:=some w2.heap.size) ⟨rfl,rfl,rfl,by simp[World.setCell],fun i hi hne=>Below.heap_setCell _ _ _ _ (fun e=>hne (by rw[e]))⟩ zm zs).left_eq
     rw[h2]
     exact VG
end
section
open Go.RowKit Go.Maps
attribute [local go_sem] Oper.semAt_some
theorem Ov(G M C:Nat)(w:World)(h:(Tb 1 G M C).At w w.heap.size):CallsIn FF 0 prog 30 #[(Tb 1 G M C).val] w fun e w'=>e=.returned (.tuple #[int i64 0,int i64 2,int i64 0])∧Below w.heap.size w w':=by
 have HO:=hid fun w h=>mE (Tb 1 G M C) w h (jT 1 zD G M C) (Nat.le_refl 2)
 have HB:=hid fun A p w hc=>la G M C A p w hc
 have HA:=hid h
 obtain⟨n,hn⟩:∃n,n=(ak (Tb 1 G M C)).length:=⟨_,rfl⟩
 rw[← hn] at HO HB
 clear hn h
 have uc:Hid (∀A w,mZ (Tb 1 G M C) A w→∀w',Below w.heap.size w w'→mZ (Tb 1 G M C) A w'):=hid fun A w h w' hb=>h.below hb
 simp only[Tb,Bk.val,Bk.cells,aA] at HO HB⊢
 gi_enter func30,ntmps30
 gi_wp2_with (first
  | (gi_at_call 33;refine(HO.out _ (HA.out.up (bw))).mono ?_;rintro e w2 ⟨A,p,rfl,hc2,hb2,-⟩)
  | (gi_at_call 67;refine(HB.out A p _ (uc.out A _ hc2 _ (bw))).mono ?_;rintro e w4 ⟨rfl,hb4⟩))
 go_ret3
 have Av:=Below.al (Below.next (show Below w.heap.size w (w.alloc (.cells #[int i64 10,int i64 1,.slice (some ⟨G,0,none⟩) 2 2,.slice (some ⟨M,0,none⟩) 4 4,.slice (some ⟨C,0,none⟩) 2 2] 26)) from bw) hb2) (.cells #[int i64 10,int i64 1,.slice (some ⟨G,0,none⟩) 2 2,.slice (some ⟨M,0,none⟩) 4 4,.slice (some ⟨C,0,none⟩) 2 2,.slice A n p] 76)
 exact⟨rfl,Below.next Av hb4⟩
end
section
open Go.RowKit
theorem RS(B b1 b2 b3 b4 b5:Nat)(w:World)(hB:B<w.heap.size)
 (l0:w.cell? ⟨B,0,none⟩=some (.func (.func 118) #[] #[.pointer (some ⟨b1,0,none⟩),.pointer (some ⟨b2,0,none⟩)]))
 (l1:w.cell? ⟨B,1,none⟩=some (.func (.func 119) #[] #[.pointer (some ⟨b3,0,none⟩),.pointer (some ⟨b2,0,none⟩)]))
 (l2:w.cell? ⟨B,2,none⟩=some (.func (.func 120) #[] #[.pointer (some ⟨b4,0,none⟩),.pointer (some ⟨b5,0,none⟩)]))
 (h1:∀w',Below w.heap.size w w'→CallsIn FF 0 prog 118 #[.pointer (some ⟨b1,0,none⟩),.pointer (some ⟨b2,0,none⟩)] w' fun e w2=>e=.returned (int i64 0)∧Below w'.heap.size w' w2)
 (h2:∀w',Below w.heap.size w w'→CallsIn FF 0 prog 119 #[.pointer (some ⟨b3,0,none⟩),.pointer (some ⟨b2,0,none⟩)] w' fun e w2=>e=.returned (int i64 0)∧Below w'.heap.size w' w2)
 (h3:∀w',Below w.heap.size w w'→CallsIn FF 0 prog 120 #[.pointer (some ⟨b4,0,none⟩),.pointer (some ⟨b5,0,none⟩)] w' fun e w2=>e=.returned (int i64 0)∧Below w'.heap.size w' w2):
 CallsIn FF 0 prog 117 #[.slice (some ⟨B,0,none⟩) 3 3] w fun e w'=>e=.returned (int i64 0)∧Below w.heap.size w w':=by
 have H1:=hid h1
 have H2:=hid h2
 have H3:=hid h3
 have L0:=hid l0
 have L1:=hid l1
 have L2:=hid l2
 clear h1 h2 h3 l0 l1 l2
 gi_enter func117,ntmps117
 gi_wp2
 gi_loopw [8] (fun i wr=>∃k:Nat,k≤3∧i=int i64 k∧Below w.heap.size w wr) (fun i _=>3 - (intOf i).toNat)
 case atStart=>exact⟨0,zo,rfl,Below.refl _ _⟩
 case round=>
  obtain⟨k,hk,rfl,hb⟩:=hrel
  have hsz:=hb.size
  by_cases hlt:k<3
  ·rcases(show k=0∨k=1∨k=2 by omega) with rfl|rfl|rfl
   ·have c0:=(hb.cell (p:=⟨B,0,none⟩) hB).trans L0.out
    gi_wp2_with (gi_at_call 118;refine(H1.out _ hb).mono ?_;rintro e w2 ⟨rfl,hb2⟩)
    go_roundw
    case rel=>exact⟨0+1,zo,by go_num,hb.trans (hb2.mono hsz)⟩
    case measure=>simp[intOf]
   ·have c0:=(hb.cell (p:=⟨B,1,none⟩) hB).trans L1.out
    gi_wp2_with (gi_at_call 119;refine(H2.out _ hb).mono ?_;rintro e w2 ⟨rfl,hb2⟩)
    go_roundw
    case rel=>exact⟨1+1,zo,by go_num,hb.trans (hb2.mono hsz)⟩
    case measure=>simp[intOf]
   ·have c0:=(hb.cell (p:=⟨B,2,none⟩) hB).trans L2.out
    gi_wp2_with (gi_at_call 120;refine(H3.out _ hb).mono ?_;rintro e w2 ⟨rfl,hb2⟩)
    go_roundw
    case rel=>exact⟨2+1,zo,by go_num,hb.trans (hb2.mono hsz)⟩
    case measure=>simp[intOf]
  ·obtain rfl:k=3:=zo
   gi_wp2
   go_ret
   exact⟨rfl,hb⟩
theorem bK{w w':World}{A:Option Addr}{n:Nat}{xs:Nat→Int}(h:Ints w w.heap.size A n xs)(hb:Below w.heap.size w w'):Ints w' w'.heap.size A n xs:=(Rows.below h hb).more hb.size
theorem Wu(xs:Nat→Int)(A:Option Addr)(n p:Nat)(gA:Option Addr)(gc B1 B2:Nat)(w:World)(hI:Ints w w.heap.size A n xs)(hn:n≤maxLen)(hx:∀i,i<n→0≤xs i∧xs i≤99)
 (c1:w.cell? ⟨B1,0,none⟩=some (.slice A n p))(c2:w.cell? ⟨B2,2,none⟩=some (.slice gA n gc)):
 CallsIn FF 0 prog 118 #[.pointer (some ⟨B1,0,none⟩),.pointer (some ⟨B2,0,none⟩)] w fun e w'=>e=.returned (int i64 0)∧Below w.heap.size w w':=by
 have H:=hid (CY xs A n p 99 w hI hn hx)
 clear hI hx
 gi_enter func118,ntmps118
 gi_wp2_with (gi_at_call 34;refine H.out.mono ?_;rintro e w2 ⟨rfl,hb2⟩)
 go_ret
 exact⟨rfl,hb2⟩
theorem Wv(xs:Nat→Int)(A:Option Addr)(n p:Nat)(gA:Option Addr)(gc B1 B2:Nat)(w:World)(hI:Ints w w.heap.size A n xs)(hn:n≤maxLen)(hx:∀i,i<n→0≤xs i∧xs i≤99)
 (c1:w.cell? ⟨B1,0,none⟩=some (.slice A n p))(c2:w.cell? ⟨B2,3,none⟩=some (.slice gA n gc)):
 CallsIn FF 0 prog 119 #[.pointer (some ⟨B1,0,none⟩),.pointer (some ⟨B2,0,none⟩)] w fun e w'=>e=.returned (int i64 0)∧Below w.heap.size w w':=by
 have H:=hid (CY xs A n p 99 w hI hn hx)
 clear hI hx
 gi_enter func119,ntmps119
 gi_wp2_with (gi_at_call 34;refine H.out.mono ?_;rintro e w2 ⟨rfl,hb2⟩)
 go_ret
 exact⟨rfl,hb2⟩
theorem Ww(xs:Nat→Int)(A:Option Addr)(n p M:Nat)(gA:Option Addr)(gc B1 B2:Nat)(w:World)(hI:Ints w w.heap.size A n xs)(hn:n≤maxLen)(hM:M≤maxLen)(hx:∀i,i<n→0≤xs i∧xs i≤(M:Int) - 1)(hup:∀i,i+1<n→xs i<xs (i+1))
 (c1:w.cell? ⟨B1,0,none⟩=some (.slice A n p))(c2:w.cell? ⟨B2,0,none⟩=some (.slice gA M gc)):
 CallsIn FF 0 prog 120 #[.pointer (some ⟨B1,0,none⟩),.pointer (some ⟨B2,0,none⟩)] w fun e w'=>e=.returned (int i64 0)∧Below w.heap.size w w':=by
 have H:=hid (SX xs A n p M w hI hn hM hx hup)
 clear hI hx hup
 gi_enter func120,ntmps120
 gi_wp2_with (gi_at_call 121;refine H.out.mono ?_;rintro e w2 ⟨rfl,hb2⟩)
 go_ret
 exact⟨rfl,hb2⟩
end
end Go.Proofs.YthaelabgfnnebaaGreat
