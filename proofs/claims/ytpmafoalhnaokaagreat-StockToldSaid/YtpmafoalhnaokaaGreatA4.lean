/- WB WC WD It WF0 GF YF -/
import Derived.Test.YtpmafoalhnaokaaGreatA3
import Derived.RangeFuncNested
import Derived.RangeFuncBound
import Derived.RangeFuncCalls
import Derived.RangeFuncLeaves
set_option maxRecDepth 100000
set_option maxHeartbeats 16000000
set_option linter.unusedVariables false
set_option linter.unusedSectionVars false
open Go.IntKind(i64)
open Go.Lib(hid)
open Go.Proofs.Tryz
open Go.Value(int)
namespace Go.Proofs.YtpmafoalhnaokaaGreat
section
open Go.RowKit
open Go.Sort (grow)
def Gx(b:Bk)(s:Nat→Int)(lo hi:Int)(i:Nat):Bool:=!(gK (b.c i).day lo hi) || gK (s (b.c i).good.toNat) (b.c i).lo (b.c i).hi
def iO(b:Bk)(s:Nat→Int)(lo hi:Int):Bool:=decide (hi<lo) || ((List.range b.nc).all (Gx b s lo hi) && decide (0≤min (s 0) (min (s 1) (s 2))))
theorem CP(b:Bk)(s:Nat→Int)(lo hi:Int)(w:World)(h:b.At w w.heap.size)(hn:b.nc≤4)(hg:∀i,i<b.nc→0≤(b.c i).good∧(b.c i).good≤2):
 CallsIn SF 0 prog 106 #[b.val,mD s,.agg #[int i64 lo,int i64 hi]] w fun e w'=>e=.returned (.bool (iO b s lo hi))∧Below w.heap.size w w':=by
 obtain⟨dY,mO,gA,ng,gc,g,mA,nm,mc,m,cA,nc,cc,c⟩:=b
 simp only at hn hg
 simp only[Bk.val,Bk.cells,mD]
 obtain⟨z0,hz0⟩:∃z,z=s 0:=zE
 obtain⟨z1,hz1⟩:∃z,z=s 1:=zE
 obtain⟨z2,hz2⟩:∃z,z=s 2:=zE
 have Z0:=hid hz0
 have Z1:=hid hz1
 have Z2:=hid hz2
 rw[← hz0,← hz1,← hz2]
 clear hz0 hz1 hz2
 by_cases hlh:hi<lo
 ·have hd:decide (hi<lo)=true:=decide_eq_true hlh
  have hr:iO (⟨dY,mO,gA,ng,gc,g,mA,nm,mc,m,cA,nc,cc,c⟩:Bk) s lo hi=true:=by unfold iO;rw[hd];rfl
  rw[hr]
  gi_enter func106,ntmps106
  gi_wp2
  go_ret
  exact⟨rfl,bw⟩
 ·have hd:decide (hi<lo)=false:=decide_eq_false hlh
  have hr:iO (⟨dY,mO,gA,ng,gc,g,mA,nm,mc,m,cA,nc,cc,c⟩:Bk) s lo hi=((List.range nc).all (Gx (⟨dY,mO,gA,ng,gc,g,mA,nm,mc,m,cA,nc,cc,c⟩:Bk) s lo hi) && decide (0≤min (s 0) (min (s 1) (s 2)))):=by unfold iO;rw[hd];rfl
  rw[hr]
  have Hh:=hid h
  clear h hr
  obtain⟨w3,hw3⟩:∃w3,w3=((w.alloc (.cells #[int i64 dY,int i64 mO,.slice gA ng gc,.slice mA nm mc,.slice cA nc cc] 73)).alloc (.cells #[int i64 z0,int i64 z1,int i64 z2] 88)).alloc (.cells #[int i64 lo,int i64 hi] 28):=zE
  have W1:Hid (Whole w3 (w.heap.size+1) 88 #[int i64 z0,int i64 z1,int i64 z2]):=hid (by
   have:=(Whole.new (w.alloc (.cells #[int i64 dY,int i64 mO,.slice gA ng gc,.slice mA nm mc,.slice cA nc cc] 73)) 88 #[int i64 z0,int i64 z1,int i64 z2]).alloc (.cells #[int i64 lo,int i64 hi] 28)
   rw[World.size_alloc] at this;rw[hw3];exact this)
  have W2:Hid (Whole w3 (w.heap.size+1+1) 28 #[int i64 lo,int i64 hi]):=hid (by
   have:=Whole.new ((w.alloc (.cells #[int i64 dY,int i64 mO,.slice gA ng gc,.slice mA nm mc,.slice cA nc cc] 73)).alloc (.cells #[int i64 z0,int i64 z1,int i64 z2] 88)) 28 #[int i64 lo,int i64 hi]
   rw[World.size_alloc,World.size_alloc] at this;rw[hw3];exact this)
  have WB:Hid (Below w.heap.size w w3):=hid (by rw[hw3];exact bw)
  have p7:=hid hw3
  clear hw3
  gi_enter func106,ntmps106
  gi_wp2
  rw[← p7.out]
  clear p7
  gi_loopw [18] (fun i wr=>∃k:Nat,k≤nc∧i=int i64 k∧Hid ((∀i,i<k→Gx (⟨dY,mO,gA,ng,gc,g,mA,nm,mc,m,cA,nc,cc,c⟩:Bk) s lo hi i=true)∧Below w3.heap.size w3 wr)) (fun i _=>nc - (intOf i).toNat)
  case atStart=>exact⟨0,Nat.zero_le _,rfl,hid ⟨fun i hi=>absurd hi (Nat.not_lt_zero i),zB⟩⟩
  case round=>
   obtain⟨k,hk,rfl,hR⟩:=hrel
   have X1:=hid (W1.out.below hR.out.2 W1.out.lt)
   have X2:=hid (W2.out.below hR.out.2 W2.out.lt)
   have XB:=hid (WB.out.trans (hR.out.2.mono WB.out.size))
   by_cases hlt:k<nc
   ·obtain⟨wo,rfl⟩:∃wo:World,wo=wr:=zE
    obtain⟨ad,hA',hbl,-⟩:=Hh.out.c (show 0<nc by omega)
    simp only at hA'
    subst hA'
    obtain⟨ck,hck⟩:∃ck,ck=c k:=zE
    have hr:∀j,j<4→wo.cell? ((ad.add (k * 4)).add j)=some (ck.cell j):=by rw[hck];exact((Hh.out.c.below XB.out).row hlt).2
    have EB:=hg k hlt
    have hcn:Gx ⟨dY,mO,gA,ng,gc,g,mA,nm,mc,m,some ad,nc,cc,c⟩ s lo hi k=(!(gK ck.day lo hi) || gK (s ck.good.toNat) ck.lo ck.hi):=by rw[hck];rfl
    rw[← hck] at EB
    have WT:=hid hcn
    clear hcn hck
    obtain⟨gd,dy,l,u⟩:=ck
    simp only at EB
    have c0:wo.cell? (ad.add (k * 4))=some (int i64 gd):=hr 0 zD
    have c1:wo.cell? ⟨(ad.add (k * 4)).block,(ad.add (k * 4)).off+1,none⟩=some (int i64 dy):=hr 1 zD
    have c2:wo.cell? ⟨(ad.add (k * 4)).block,(ad.add (k * 4)).off+2,none⟩=some (int i64 l):=hr 2 zD
    have c3:wo.cell? ⟨(ad.add (k * 4)).block,(ad.add (k * 4)).off+3,none⟩=some (int i64 u):=hr 3 zD
    clear hr
    gi_wp2
    obtain⟨w5,FR⟩:∃w5,w5=wo.alloc (.cells #[int i64 gd,int i64 dy,int i64 l,int i64 u] 45):=zE
    rw[← FR]
    have Y0:Whole w5 wo.heap.size 45 #[int i64 gd,int i64 dy,int i64 l,int i64 u]:=by rw[FR];exact Whole.new _ _ _
    have Y1:Whole w5 (w.heap.size+1) 88 #[int i64 z0,int i64 z1,int i64 z2]:=by rw[FR];exact X1.out.alloc _
    have Y2:Whole w5 (w.heap.size+1+1) 28 #[int i64 lo,int i64 hi]:=by rw[FR];exact X2.out.alloc _
    have YB:Hid (Below w3.heap.size w3 w5):=hid (by rw[FR];exact hR.out.2.alloc hR.out.2.size _)
    have k0:=cell_regrown (Y0.cell 0)
    have k1:=cell_regrown (Y0.cell 1)
    have k2:=cell_regrown (Y0.cell 2)
    have k3:=cell_regrown (Y0.cell 3)
    have j0:=cell_regrown (Y1.cell 0)
    have j1:=cell_regrown (Y1.cell 1)
    have j2:=cell_regrown (Y1.cell 2)
    have i0:=cell_regrown (Y2.cell 0)
    have i1:=cell_regrown (Y2.cell 1)
    clear FR Y0 Y1 Y2 c0 c1 c2 c3
    have cH:∀a b n d os,CallsIn SF 0 prog 92 #[.agg #[int i64 a,int i64 b],int i64 n] (grow (redrawn w5 d) os) fun e w''=>e=.returned (.bool (gK n a b))∧∃p:Regrown,w''=grow (redrawn w5 p.d) p.os:=fun a b n d os=>CallsIn.regrown_of (dm a b n _)
    cases KP:gK dy lo hi with
    | false=>
      have hT:Gx ⟨dY,mO,gA,ng,gc,g,mA,nm,mc,m,some ad,nc,cc,c⟩ s lo hi k=true:=by rw[WT.out,KP];rfl
      refine wpIn_region_quiet_below rfl zk zk ?_
      repeat (quiet_step_in (exact cH _ _ _ _ _))
      refine wpQuietIn_nil ?_
      rintro w' ⟨⟨dq,osq⟩,rfl⟩
      have bg:=below_regrown w5 dq osq
      clear k0 k1 k2 k3 j0 j1 j2 i0 i1 cH
      generalize grow (redrawn w5 dq) osq=w9 at bg⊢
      gi_wp2
      go_roundw
      case rel=>exact⟨k+1,zo,by go_num,hid ⟨eY hR.out.1 hT,YB.out.trans (bg.mono YB.out.size)⟩⟩
      case measure=>simp[intOf];omega
    | true=>
      obtain⟨sg,hsg⟩:∃sg,sg=s gd.toNat:=zE
      have hT:Gx ⟨dY,mO,gA,ng,gc,g,mA,nm,mc,m,some ad,nc,cc,c⟩ s lo hi k=gK sg l u:=by rw[WT.out,KP,hsg];rfl
      obtain⟨bs,hbs⟩:∃bs,bs=gK sg l u:=zE
      rw[← hbs] at hT
      have HT:=hid hT
      replace hbs:=hbs.symm
      clear hT WT
      have TC:(gd=0∧sg=z0)∨(gd=1∧sg=z1)∨(gd=2∧sg=z2):=by
       rcases(show gd=0∨gd=1∨gd=2 by omega) with rfl|rfl|rfl
       ·exact .inl ⟨rfl,by rw[hsg,Z0.out];rfl⟩
       ·exact .inr (.inl ⟨rfl,by rw[hsg,Z1.out];rfl⟩)
       ·exact .inr (.inr ⟨rfl,by rw[hsg,Z2.out];rfl⟩)
      clear hsg EB
      rcases TC with⟨rfl,rfl⟩|⟨rfl,rfl⟩|⟨rfl,rfl⟩
      all_goals cases bs
      all_goals
       refine wpIn_region_quiet_below rfl zk zk ?_
       repeat (quiet_step_in (exact cH _ _ _ _ _))
       refine wpQuietIn_nil ?_
       rintro w' ⟨⟨dq,osq⟩,rfl⟩
       have bg:=below_regrown w5 dq osq
       clear k0 k1 k2 k3 j0 j1 j2 i0 i1 cH
       generalize grow (redrawn w5 dq) osq=w9 at bg⊢
       have uV:=hid bg
       clear bg
       gi_wp2
       first
        | (go_roundw
           case rel=>exact⟨k+1,zo,by go_num,hid ⟨eY hR.out.1 HT.out,YB.out.trans (uV.out.mono YB.out.size)⟩⟩
           case measure=>simp[intOf];omega)
        | (go_ret
           refine⟨?_,(WB.out.trans ((YB.out.trans (uV.out.mono YB.out.size)).mono WB.out.size))⟩
           have hf:(List.range nc).all (Gx ⟨dY,mO,gA,ng,gc,g,mA,nm,mc,m,some ad,nc,cc,c⟩ s lo hi)=false:=by
            rw[List.all_eq_false]
            exact⟨k,List.mem_range.2 hlt,by rw[HT.out];decide⟩
           rw[hf];rfl)
   ·obtain rfl:k=nc:=zo
    have cM:=AK z0 z1 z2 (w.heap.size+1) wr X1.out
    have hall:(List.range k).all (Gx (⟨dY,mO,gA,ng,gc,g,mA,nm,mc,m,cA,k,cc,c⟩:Bk) s lo hi)=true:=List.all_eq_true.2 fun i hi=>hR.out.1 i (List.mem_range.1 hi)
    have CM:=hid cM
    have HA:=hid hall
    clear cM hall
    gi_wp2_with (gi_at_call 132;refine CM.out.mono ?_;rintro e w8 ⟨rfl,CF⟩)
    go_ret
    exact⟨by rw[HA.out,← Z0.out,← Z1.out,← Z2.out];simp,XB.out.trans (CF.mono XB.out.size)⟩
def dZ(s:Nat):Prop:=s<64
def pop(s:Nat):Int:=(((List.range 6).filter fun k=>s / 2 ^ k % 2 == 1).length:Nat)
theorem Qb:∃R:Int→Int,(∀ (x:Int) (w:World),0≤x∧x<64→CallsIn SF 0 prog 131 #[.int .u64 x] w fun e w'=>e=.returned (int i64 (R x))∧Below w.heap.size w w')∧∀s,s<64→R (s:Nat)=pop s:=by
 refine⟨?R,fun x w hx=>?a,?b⟩
 case a=>
  gi_enter func131,ntmps131
  gi_wp2
  go_ret
  refine⟨?_,zB⟩
  simp
  rfl
 case b=>
  refine of_decide_eq_true ?_
  kernel_rfl
theorem Va(s:Nat)(h:dZ s)(w:World):CallsIn SF 0 prog 131 #[.int .u64 s] w fun e w'=>e=.returned (int i64 (pop s))∧Below w.heap.size w w':=by
 obtain⟨R,h1,h2⟩:=Qb
 unfold dZ at h
 rw[← h2 s h]
 exact h1 s w zo
theorem mL(s:Nat)(h:dZ s)(w:World):CallsIn SF 0 prog 103 #[.int .u64 s] w fun e w'=>e=.returned (int i64 (pop s))∧Below w.heap.size w w':=by
 have H:=fun w=>Va s h w
 gi_enter func103,ntmps103
 gi_wp2_with (gi_at_call 131;refine(H _).mono ?_;rintro e w2 ⟨rfl,hb2⟩)
 go_ret
 exact⟨rfl,hb2⟩
theorem Tv(b:Bk)(s:Nat)(h:dZ s)(w:World):CallsIn SF 0 prog 80 #[b.val,int i64 s] w fun e w'=>e=.returned (.bool (decide (pop s≤b.mO)))∧Below w.heap.size w w':=by
 obtain⟨dY,mO,gA,ng,gc,g,mA,nm,mc,m,cA,nc,cc,c⟩:=b
 simp only[Bk.val,Bk.cells]
 obtain⟨w1,hw1⟩:∃w1,w1=w.alloc (.cells #[int i64 dY,int i64 mO,.slice gA ng gc,.slice mA nm mc,.slice cA nc cc] 73):=zE
 have W0:Whole w1 w.heap.size 73 #[int i64 dY,int i64 mO,.slice gA ng gc,.slice mA nm mc,.slice cA nc cc]:=by rw[hw1];exact Whole.new _ _ _
 have WB:Below w.heap.size w w1:=by rw[hw1];exact bw
 have k1:=cell_regrown (W0.cell 1)
 have cH:∀d os,CallsIn SF 0 prog 103 #[.int .u64 s] (grow (redrawn w1 d) os) fun e w''=>e=.returned (int i64 (pop s))∧∃p:Regrown,w''=grow (redrawn w1 p.d) p.os:=fun d os=>CallsIn.regrown_of (mL s h _)
 have hs:s<64:=h
 have eU:IntKind.u64.wrap (s:Int)=s:=by
  have:∀s:Nat,s<64→IntKind.u64.wrap (s:Int)=s:=of_decide_eq_true zk
  exact this s hs
 have ku:=hid hw1
 clear hw1
 gi_enter func80,ntmps80
 gi_wp2
 rw[← ku.out]
 refine wpIn_region_quiet_below rfl zk zk ?_
 repeat (quiet_step_in (exact cH _ _))
 refine wpQuietIn_nil ?_
 rintro w' ⟨⟨dq,osq⟩,rfl⟩
 have bg:=below_regrown w1 dq osq
 clear k1 cH
 generalize grow (redrawn w1 dq) osq=w9 at bg⊢
 gi_wp2
 go_ret
 exact⟨by first|rfl|simp,WB.trans (bg.mono WB.size)⟩
abbrev St:=Nat→Int
def stC(s:St):List Value:=[int i64 (s 0),int i64 (s 1),int i64 (s 2)]
def ext(s:St)(g:Nat)(n:Int):St:=fun i=>if i=g then n else s i
def aX(lo:Int)(k:Nat):List Int:=(List.range k).map fun(i:Nat)=>lo+i
def aR(b:Bk):Nat→List St
 | 0=>[fun _=>0]
 | Nat.succ k=>(aR b k).flatMap fun s=>(aX (b.g k).lo ((b.g k).hi - (b.g k).lo+1).toNat).map fun n=>ext s k n
def kM(l:List St):List Value:=l.flatMap stC
theorem mH(l l':List St):kM (l ++ l')=kM l ++ kM l':=List.flatMap_append
theorem GY:∀ (l:List St) {i j:Nat},i<l.length→j<3→(kM l)[i * 3+j]? =some (int i64 (l.getD i (fun _=>0) j))
 | [],_,_,h,_=>by cases h
 | x :: l,0,j,_,hj=>by
   rcases(show j=0∨j=1∨j=2 by omega) with rfl|rfl|rfl <;> rfl
 | x :: l,i+1,j,h,hj=>by
   have:=GY l (i:=i) (j:=j) (by simpa using h) hj
   have e:(kM (x :: l))[(i+1) * 3+j]? =(kM l)[i * 3+j]?:=by
    rw[show(i+1) * 3+j=(i * 3+j)+3 by omega]
    rfl
   rw[e,this]
   simp
theorem mY(lo:Int)(k:Nat):aX lo (k+1)=aX lo k ++ [lo+k]:=by unfold aX;rw[List.range_succ,List.map_append];rfl
theorem Tryz.infoS:(Tryz.prog.info? 88).map (fun i=>(i.zero,i.size,i.bytes))=some (some (.agg #[int i64 0,int i64 0,int i64 0]),3,24):=zk
theorem mG(b:Bk)(h:kF b):∀k,k≤b.ng→(aR b k).length≤3 ^ k
 | 0,_=>by simp[aR]
 | Nat.succ k,hk=>by
   have ih:=mG b h k zo
   have hf:=jc (h.2 k zo).few
   have:∀l:List St,(l.flatMap fun s=>(aX (b.g k).lo ((b.g k).hi - (b.g k).lo+1).toNat).map fun n=>ext s k n).length≤l.length * 3:=fun l=>by
    induction l with
    | nil=>simp
    | cons x l ih=>rw[List.flatMap_cons,List.length_append];simp[aX] at ih⊢;omega
   have h2:=this (aR b k)
   simp only[aR]
   rw[Nat.pow_succ]
   omega
theorem TI(b:Bk)(w:World)(h:b.At w w.heap.size)(ok:kF b):CallsIn SF 0 prog 108 #[b.val] w fun e w'=>∃A p,e=.returned (.slice A (aR b b.ng).length p)∧Rows w' w'.heap.size 3 A (aR b b.ng).length (fun i j=>int i64 ((aR b b.ng).getD i (fun _=>0) j))∧(∀ad,A=some ad→w.heap.size<ad.block)∧Below w.heap.size w w':=by
 obtain⟨dY,mO,gA,ng,gc,g,mA,nm,mc,m,cA,nc,cc,c⟩:=b
 have hfl:=fun k hk=>mG (⟨dY,mO,gA,ng,gc,g,mA,nm,mc,m,cA,nc,cc,c⟩:Bk) ok k hk
 simp only[Bk.val,Bk.cells]
 obtain⟨L,hL⟩:∃L,L=aR (⟨dY,mO,gA,ng,gc,g,mA,nm,mc,m,cA,nc,cc,c⟩:Bk):=zE
 have hL0:L 0=[fun _=>0]:=by rw[hL];rfl
 have vb:∀k,L (k+1)=(L k).flatMap fun s=>(aX (g k).lo ((g k).hi - (g k).lo+1).toNat).map fun n=>ext s k n:=fun k=>by rw[hL];rfl
 rw[← hL] at hfl⊢
 have wm:ng≤3:=ok.1.2
 have rl:=fun k hk=>jc (ok.2 k hk).few
 simp only at hfl rl
 clear hL ok
 have Hh:=hid h
 have Sv:=hid vb
 have HFL:=hid hfl
 have OK:=hid rl
 clear h vb hfl rl
 obtain⟨iS,hiS,hm0,hm1,hm2⟩:=info_parts Tryz.infoS
 have Nm:=hid hiS
 clear hiS
 gi_enter func108,ntmps108
 gi_wp2
 gi_loopw [3,16] (fun l i wr=>∃k:Nat,k≤ng∧i=int i64 k∧∃A p,l=.slice A (L k).length p∧Hid (Rows wr wr.heap.size 3 A (L k).length (fun i j=>int i64 ((L k).getD i (fun _=>0) j))∧Below (w.heap.size+1) (w.alloc (.cells #[int i64 dY,int i64 mO,.slice gA ng gc,.slice mA nm mc,.slice cA nc cc] 73)) wr∧(∀ad,A=some ad→w.heap.size<ad.block))) (fun _ i _=>ng - (intOf i).toNat)
 case atStart=>
  refine⟨0,Nat.zero_le _,rfl,some ⟨w.heap.size+1,0,none⟩,1,by rw[hL0];rfl,hid ⟨?_,?_⟩⟩
  ·have hW:=Whole.new (w.alloc (.cells #[int i64 dY,int i64 mO,.slice gA ng gc,.slice mA nm mc,.slice cA nc cc] 73)) 88 #[int i64 0,int i64 0,int i64 0]
   rw[World.size_alloc] at hW
   rw[hL0]
   intro _
   refine⟨_,rfl,zs,fun i j hi hj=>?_⟩
   obtain rfl:i=0:=by simpa using hi
   have e:((⟨w.heap.size+1,0,none⟩:Addr).add (0 * 3+j))=⟨w.heap.size+1,j,none⟩:=by unfold Addr.add;split <;> simp_all
   rw[e,hW.cell]
   rcases(show j=0∨j=1∨j=2 by omega) with rfl|rfl|rfl <;> rfl
  ·exact⟨zB.alloc zs _,fun ad h=>by cases h;exact Nat.lt_succ_self _⟩
 case round=>
  obtain⟨k,hk,rfl,A,p,rfl,hR⟩:=hrel
  obtain⟨wo,rfl⟩:∃wo:World,wo=wr:=zE
  have hsz:w.heap.size+1≤wo.heap.size:=by have:=hR.out.2.1.size;simpa using this
  have Yn:w.heap.size<wo.heap.size:=hsz
  have hbx:∀o,wo.cell? ⟨w.heap.size,o,none⟩=(#[int i64 dY,int i64 mO,.slice gA ng gc,.slice mA nm mc,.slice cA nc cc]:Array Value)[o]?:=((Whole.new w 73 #[int i64 dY,int i64 mO,.slice gA ng gc,.slice mA nm mc,.slice cA nc cc]).below hR.out.2.1 (Nat.lt_succ_self _)).cell
  by_cases hlt:k<ng
  ·obtain⟨ad,hA',hbl,-⟩:=Hh.out.g (show 0<ng by omega)
   simp only at hA'
   subst hA'
   obtain⟨gk,EB⟩:∃gk,gk=g k:=zE
   have hr:∀j,j<5→wo.cell? ((ad.add (k * 5)).add j)=some (gk.cell j):=fun j hj=>by rw[EB];exact(((Hh.out.g.alloc zL (.cells #[int i64 dY,int i64 mO,.slice (some ad) ng gc,.slice mA nm mc,.slice cA nc cc] 73)).more (Nat.le_succ _)).below hR.out.2.1).row hlt |>.2 j hj
   have hok:=OK.out k hlt
   have hLk:=Sv.out k
   have hl9:=HFL.out k zo
   have S5:=HFL.out (k+1) zo
   rw[← EB] at hok hLk
   obtain⟨NA,co,pk,lo,hi⟩:=gk
   simp only at hok hLk
   have c0:wo.cell? (ad.add (k * 5))=some (.string NA):=hr 0 zD
   have c1:wo.cell? ⟨(ad.add (k * 5)).block,(ad.add (k * 5)).off+1,none⟩=some (int i64 co):=hr 1 zD
   have c2:wo.cell? ⟨(ad.add (k * 5)).block,(ad.add (k * 5)).off+2,none⟩=some (int i64 pk):=hr 2 zD
   have c3:wo.cell? ⟨(ad.add (k * 5)).block,(ad.add (k * 5)).off+3,none⟩=some (int i64 lo):=hr 3 zD
   have c4:wo.cell? ⟨(ad.add (k * 5)).block,(ad.add (k * 5)).off+4,none⟩=some (int i64 hi):=hr 4 zD
   clear hr EB
   obtain⟨cnt,hcnt⟩:∃cnt,cnt=(hi - lo+1).toNat:=zE
   rw[← hcnt] at hLk
   have hc3:cnt≤3:=zo
   have HC:Hid ((cnt:Int)=hi - lo+1):=hid zo
   clear hcnt
   obtain⟨f,hf⟩:∃f:St→List St,f=fun s=>(aX lo cnt).map fun n=>ext s k n:=⟨_,rfl⟩
   have hLf:L (k+1)=(L k).flatMap f:=by rw[hLk,hf]
   have hfl:∀l:List St,(l.flatMap f).length=l.length * cnt:=fun l=>by
    induction l with
    | nil=>simp
    | cons x l ih=>rw[List.flatMap_cons,List.length_append,ih,hf];simp[aX,Nat.succ_mul];omega
   have hln:(L k).length≤27:=by
    refine Nat.le_trans hl9 (Nat.le_trans (Nat.pow_le_pow_right zD (show k≤3 by omega)) zD)
   have HL1:=hid hLf
   have HFF:=hid hf
   have HFN:=hid hfl
   clear hLk hLf hf hfl hl9 S5
   obtain⟨l0,hl0⟩:∃l0,l0=L k:=zE
   have sX:=hid hl0
   rw[← hl0] at hR hln
   obtain⟨N,hN⟩:∃N,N=l0.length:=zE
   rw[← hl0,← hN]
   have HN:=hid hN
   clear hl0
   rw[← hN] at hR hln
   clear hN
   gi_wp2
   obtain⟨wg,hwg⟩:∃wg,wg=wo.alloc (.cells #[.string NA,int i64 co,int i64 pk,int i64 lo,int i64 hi] 83):=zE
   have G0:=hid (show Whole wg wo.heap.size 83 #[.string NA,int i64 co,int i64 pk,int i64 lo,int i64 hi] by rw[hwg];exact Whole.new _ _ _)
   have GB:=hid (show Below wo.heap.size wo wg by rw[hwg];exact zB.alloc zL _)
   have hgs:wg.heap.size=wo.heap.size+1:=by rw[hwg];simp
   rw[← hwg]
   clear hwg c0 c1 c2 c3 c4
   gi_loopw [6,23] (fun l2 j wj=>∃q:Nat,q≤N∧j=int i64 q∧Hid (wj.ownsRow wg.heap.size 88 3 l2 (q * cnt) (kM ((l0.take q).flatMap f))∧Below wg.heap.size wg wj)) (fun _ j _=>N - (intOf j).toNat)
   case atStart=>exact⟨0,Nat.zero_le _,rfl,hid ⟨⟨by simp[kM],.inl ⟨rfl,zs⟩⟩,zB⟩⟩
   case round=>
    obtain⟨q,hq,rfl,hS⟩:=hrel
    obtain⟨A9,n9,p9,rfl⟩:=iq hS.out.1
    obtain⟨wj,rfl⟩:∃wj:World,wj=wr:=zE
    have hsj:=hS.out.2.size
    by_cases hq2:q<N
    ·have hRj:=hR.out.1.below (GB.out.trans (hS.out.2.mono zo))
     obtain⟨aa,rfl,hab,-⟩:=hRj (show 0<N by omega)
     have hrw:=hRj.row hq2
     obtain⟨s,hs⟩:∃s,s=l0.getD q (fun _=>0):=zE
     have d0:wj.cell? (aa.add (q * 3))=some (int i64 (s 0)):=by rw[hs];exact hrw.2 0 zD
     have d1:wj.cell? ⟨(aa.add (q * 3)).block,(aa.add (q * 3)).off+1,none⟩=some (int i64 (s 1)):=by rw[hs];exact hrw.2 1 zD
     have d2:wj.cell? ⟨(aa.add (q * 3)).block,(aa.add (q * 3)).off+2,none⟩=some (int i64 (s 2)):=by rw[hs];exact hrw.2 2 zD
     have HS:=hid hs
     have g3:=(G0.out.below hS.out.2 zo).cell 3
     have g4:=(G0.out.below hS.out.2 zo).cell 4
     clear hs hrw hRj
     have hgl:wo.heap.size<wj.heap.size:=zo
     gi_wp2
     have hown:=hS.out.1
     have hge:∀g,(Value.slice A9 n9 p9).ownBlock=some g→g≠wj.heap.size:=fun g hg=>by have:=(bL hown hg).2;omega
     obtain⟨wn,hwn⟩:∃wn,wn=wj.alloc (.cells #[int i64 (s 0),int i64 (s 1),int i64 (s 2)] 88):=zE
     have N0:Hid (Whole wn wj.heap.size 88 #[int i64 (s 0),int i64 (s 1),int i64 (s 2)]):=hid (by rw[hwn];exact Whole.new _ _ _)
     have NB:Hid (Below wg.heap.size wg wn):=hid (by rw[hwn];exact hS.out.2.alloc hsj _)
     have NO:Hid (wn.ownsRow wg.heap.size 88 3 (.slice A9 n9 p9) (q * cnt) (kM ((l0.take q).flatMap f))):=hid (by rw[hwn];exact bD hown _)
     have hns:wn.heap.size=wj.heap.size+1:=by rw[hwn];simp
     have HGE:=hid hge
     rw[← hwn]
     clear hwn hown hge d0 d1 d2 g3 g4 hS
     have hqc:q * cnt≤81:=Nat.le_trans (Nat.mul_le_mul (show q≤27 by omega) hc3) zD
     gi_loopw [6,9] (fun l3 n w3=>∃i:Nat,i≤cnt∧n=int i64 (lo+i)∧∃z:St,Hid (w3.ownsRow wg.heap.size 88 3 l3 (q * cnt+i) (kM ((l0.take q).flatMap f ++ (aX lo i).map fun n=>ext s k n))∧(∀g,l3.ownBlock=some g→g≠wj.heap.size)∧Whole w3 wj.heap.size 88 #[int i64 (z 0),int i64 (z 1),int i64 (z 2)]∧(∀x,ext z k x=ext s k x)∧Below wg.heap.size wg w3)) (fun _ n _=>(hi+1 - intOf n).toNat)
     case atStart=>exact⟨0,Nat.zero_le _,zs,s,hid ⟨by simpa [aX] using NO.out,HGE.out,N0.out,fun _=>rfl,NB.out⟩⟩
     case round=>
      obtain⟨i,hii,rfl,z,hT⟩:=hrel
      clear N0 NB NO HGE
      obtain⟨A3,n3,p3,rfl⟩:=iq hT.out.1
      have hs3:=hT.out.2.2.1.lt
      have g4:=(G0.out.below hT.out.2.2.2.2 zo).cell 4
      have aaB:wo.heap.size<wr.heap.size:=zo
      by_cases hic:i<cnt
      ·have hd:decide (lo+(i:Int)≤hi)=true:=decide_eq_true (by have:=HC.out;omega)
       have e1:wrap64 (lo+(i:Int)+1)=lo+(i:Int)+1:=IntWalk.wrap64_in _ (by have:=HC.out;omega)
       have x0:wr.cell? ⟨wj.heap.size,0,none⟩=some (int i64 (z 0)):=hT.out.2.2.1.cell 0
       have x1:wr.cell? ⟨wj.heap.size,1,none⟩=some (int i64 (z 1)):=hT.out.2.2.1.cell 1
       have x2:wr.cell? ⟨wj.heap.size,2,none⟩=some (int i64 (z 2)):=hT.out.2.2.1.cell 2
       have xf:=hT.out.2.2.1.thaw
       have aaJ:¬ wo.heap.size=wj.heap.size:=zo
       obtain⟨nv,la⟩:∃nv,nv=lo+(i:Int):=zE
       have MF:=hid la
       rw[← la] at hd e1⊢
       have E1:=hid e1
       clear la
       have HO:Hid (∀o v,((wr.setCell ⟨wj.heap.size,k,none⟩ v).alloc o).ownsRow wg.heap.size 88 3 (.slice A3 n3 p3) (q * cnt+i) (kM ((l0.take q).flatMap f ++ (aX lo i).map fun n=>ext s k n))):=hid fun o v=>bD (iw hT.out.1 fun g hg _=>Below.heap_setCell _ _ _ _ (hT.out.2.1 g hg)) o
       have hz:ext z k nv=ext s k nv:=hT.out.2.2.2.1 nv
       have HZ:=hid hz
       clear hz
       rcases(show k=0∨k=1∨k=2 by omega) with rfl|rfl|rfl
       ·have hsc:(wr.setCell ⟨wj.heap.size,0,none⟩ (int i64 nv)).heap.size=wr.heap.size:=by simp[World.setCell]
        have hbk:((wr.setCell ⟨wj.heap.size,0,none⟩ (int i64 nv)).alloc (.cells #[int i64 nv,int i64 (z 1),int i64 (z 2)] 88)).heap[wr.heap.size]? =some (.cells #[int i64 nv,int i64 (z 1),int i64 (z 2)] 88):=by
         have:=heap_alloc_new (wr.setCell ⟨wj.heap.size,0,none⟩ (int i64 nv)) (.cells #[int i64 nv,int i64 (z 1),int i64 (z 2)] 88)
         rwa[hsc] at this
        have sA:=hid hbk
        have hs5:((wr.setCell ⟨wj.heap.size,0,none⟩ (int i64 nv)).alloc (.cells #[int i64 nv,int i64 (z 1),int i64 (z 2)] 88)).heap.size=wr.heap.size+1:=by rw[World.size_alloc,hsc]
        have Sz:=hid hs5
        have fR:=hid (HO.out (.cells #[int i64 nv,int i64 (z 1),int i64 (z 2)] 88) (int i64 nv))
        have ME:Hid (Below wg.heap.size wg ((wr.setCell ⟨wj.heap.size,0,none⟩ (int i64 nv)).alloc (.cells #[int i64 nv,int i64 (z 1),int i64 (z 2)] 88))):=hid ((hT.out.2.2.2.2.setCell (p:=⟨wj.heap.size,0,none⟩) hsj _).alloc (by rw[hsc];omega) _)
        have tk:Hid (Whole ((wr.setCell ⟨wj.heap.size,0,none⟩ (int i64 nv)).alloc (.cells #[int i64 nv,int i64 (z 1),int i64 (z 2)] 88)) wj.heap.size 88 #[int i64 nv,int i64 (z 1),int i64 (z 2)]):=hid ((hT.out.2.2.1.set 0 (int i64 nv)).alloc _)
        clear hsc hbk hs5
        gi_wp2_with (gi_at_builtin;refine aD rfl rfl rfl fun K5 iH=>?_;refine wp_append_lies _ _ _ _ rfl wg.heap.size 88 iS _ 3 24 underlying153 Nm.out hm0 hm1 hm2 rfl zo (.slice A3 n3 p3) (q * cnt+i) _ rfl fR.out ⟨wr.heap.size,0,none⟩ 1 1 [int i64 nv,int i64 (z 1),int i64 (z 2)] rfl rfl (World.news_of_block sA.out) (by simp[Value.oneCell']) zo zU zo (by rw[Sz.out];omega) (wr.heap.size+1) Sz.out ?_;intro jN gQ w5 hown5 aN kX mP;refine iH _ _ ?_;clear iH K5)
        go_roundw
        case rel=>
         refine⟨_,_,_,_,_,_,_,_,_,_,_,_,_,_,_,_,?_,rfl⟩
         have hgg:jN≠wj.heap.size:=by
          rcases kX with h|h
          ·exact hT.out.2.1 jN h
          ·omega
         refine⟨i+1,zo,by(first|rw[E1.out] |skip);rw[MF.out];congr 1;push_cast;omega,ext s 0 nv,hid ⟨?_,fun g hg=>by cases hg;exact hgg,?_,fun x=>by funext y;simp only[ext];split <;> rfl,ME.out.trans (below_grown aN (by rw[Sz.out];omega) (fun g hg=>(bL hT.out.1 hg).1))⟩⟩
         ·rw[mY,List.map_append,← List.append_assoc,mH,← MF.out]
          have e:kM (List.map (fun n=>ext s 0 n) [nv])=[int i64 nv,int i64 (z 1),int i64 (z 2)]:=by
           rw[List.map_singleton,← HZ.out];rfl
          rw[e]
          exact hown5
         ·rw[← HZ.out]
          exact tk.out.grown aN (fun e=>by exact absurd rfl (hT.out.2.1 _ e.symm))
        case measure=>have:=HC.out;have:=MF.out;simp[intOf];omega
       ·have hsc:(wr.setCell ⟨wj.heap.size,1,none⟩ (int i64 nv)).heap.size=wr.heap.size:=by simp[World.setCell]
        have hbk:((wr.setCell ⟨wj.heap.size,1,none⟩ (int i64 nv)).alloc (.cells #[int i64 (z 0),int i64 nv,int i64 (z 2)] 88)).heap[wr.heap.size]? =some (.cells #[int i64 (z 0),int i64 nv,int i64 (z 2)] 88):=by
         have:=heap_alloc_new (wr.setCell ⟨wj.heap.size,1,none⟩ (int i64 nv)) (.cells #[int i64 (z 0),int i64 nv,int i64 (z 2)] 88)
         rwa[hsc] at this
        have sA:=hid hbk
        have hs5:((wr.setCell ⟨wj.heap.size,1,none⟩ (int i64 nv)).alloc (.cells #[int i64 (z 0),int i64 nv,int i64 (z 2)] 88)).heap.size=wr.heap.size+1:=by rw[World.size_alloc,hsc]
        have Sz:=hid hs5
        have fR:=hid (HO.out (.cells #[int i64 (z 0),int i64 nv,int i64 (z 2)] 88) (int i64 nv))
        have ME:Hid (Below wg.heap.size wg ((wr.setCell ⟨wj.heap.size,1,none⟩ (int i64 nv)).alloc (.cells #[int i64 (z 0),int i64 nv,int i64 (z 2)] 88))):=hid ((hT.out.2.2.2.2.setCell (p:=⟨wj.heap.size,1,none⟩) hsj _).alloc (by rw[hsc];omega) _)
        have tk:Hid (Whole ((wr.setCell ⟨wj.heap.size,1,none⟩ (int i64 nv)).alloc (.cells #[int i64 (z 0),int i64 nv,int i64 (z 2)] 88)) wj.heap.size 88 #[int i64 (z 0),int i64 nv,int i64 (z 2)]):=hid ((hT.out.2.2.1.set 1 (int i64 nv)).alloc _)
        clear hsc hbk hs5
        gi_wp2_with (gi_at_builtin;refine aD rfl rfl rfl fun K5 iH=>?_;refine wp_append_lies _ _ _ _ rfl wg.heap.size 88 iS _ 3 24 underlying153 Nm.out hm0 hm1 hm2 rfl zo (.slice A3 n3 p3) (q * cnt+i) _ rfl fR.out ⟨wr.heap.size,0,none⟩ 1 1 [int i64 (z 0),int i64 nv,int i64 (z 2)] rfl rfl (World.news_of_block sA.out) (by simp[Value.oneCell']) zo zU zo (by rw[Sz.out];omega) (wr.heap.size+1) Sz.out ?_;intro jN gQ w5 hown5 aN kX mP;refine iH _ _ ?_;clear iH K5)
        go_roundw
        case rel=>
         refine⟨_,_,_,_,_,_,_,_,_,_,_,_,_,_,_,_,?_,rfl⟩
         have hgg:jN≠wj.heap.size:=by
          rcases kX with h|h
          ·exact hT.out.2.1 jN h
          ·omega
         refine⟨i+1,zo,by(first|rw[E1.out] |skip);rw[MF.out];congr 1;push_cast;omega,ext s 1 nv,hid ⟨?_,fun g hg=>by cases hg;exact hgg,?_,fun x=>by funext y;simp only[ext];split <;> rfl,ME.out.trans (below_grown aN (by rw[Sz.out];omega) (fun g hg=>(bL hT.out.1 hg).1))⟩⟩
         ·rw[mY,List.map_append,← List.append_assoc,mH,← MF.out]
          have e:kM (List.map (fun n=>ext s 1 n) [nv])=[int i64 (z 0),int i64 nv,int i64 (z 2)]:=by
           rw[List.map_singleton,← HZ.out];rfl
          rw[e]
          exact hown5
         ·rw[← HZ.out]
          exact tk.out.grown aN (fun e=>by exact absurd rfl (hT.out.2.1 _ e.symm))
        case measure=>have:=HC.out;have:=MF.out;simp[intOf];omega
       ·have hsc:(wr.setCell ⟨wj.heap.size,2,none⟩ (int i64 nv)).heap.size=wr.heap.size:=by simp[World.setCell]
        have hbk:((wr.setCell ⟨wj.heap.size,2,none⟩ (int i64 nv)).alloc (.cells #[int i64 (z 0),int i64 (z 1),int i64 nv] 88)).heap[wr.heap.size]? =some (.cells #[int i64 (z 0),int i64 (z 1),int i64 nv] 88):=by
         have:=heap_alloc_new (wr.setCell ⟨wj.heap.size,2,none⟩ (int i64 nv)) (.cells #[int i64 (z 0),int i64 (z 1),int i64 nv] 88)
         rwa[hsc] at this
        have sA:=hid hbk
        have hs5:((wr.setCell ⟨wj.heap.size,2,none⟩ (int i64 nv)).alloc (.cells #[int i64 (z 0),int i64 (z 1),int i64 nv] 88)).heap.size=wr.heap.size+1:=by rw[World.size_alloc,hsc]
        have Sz:=hid hs5
        have fR:=hid (HO.out (.cells #[int i64 (z 0),int i64 (z 1),int i64 nv] 88) (int i64 nv))
        have ME:Hid (Below wg.heap.size wg ((wr.setCell ⟨wj.heap.size,2,none⟩ (int i64 nv)).alloc (.cells #[int i64 (z 0),int i64 (z 1),int i64 nv] 88))):=hid ((hT.out.2.2.2.2.setCell (p:=⟨wj.heap.size,2,none⟩) hsj _).alloc (by rw[hsc];omega) _)
        have tk:Hid (Whole ((wr.setCell ⟨wj.heap.size,2,none⟩ (int i64 nv)).alloc (.cells #[int i64 (z 0),int i64 (z 1),int i64 nv] 88)) wj.heap.size 88 #[int i64 (z 0),int i64 (z 1),int i64 nv]):=hid ((hT.out.2.2.1.set 2 (int i64 nv)).alloc _)
        clear hsc hbk hs5
        gi_wp2_with (gi_at_builtin;refine aD rfl rfl rfl fun K5 iH=>?_;refine wp_append_lies _ _ _ _ rfl wg.heap.size 88 iS _ 3 24 underlying153 Nm.out hm0 hm1 hm2 rfl zo (.slice A3 n3 p3) (q * cnt+i) _ rfl fR.out ⟨wr.heap.size,0,none⟩ 1 1 [int i64 (z 0),int i64 (z 1),int i64 nv] rfl rfl (World.news_of_block sA.out) (by simp[Value.oneCell']) zo zU zo (by rw[Sz.out];omega) (wr.heap.size+1) Sz.out ?_;intro jN gQ w5 hown5 aN kX mP;refine iH _ _ ?_;clear iH K5)
        go_roundw
        case rel=>
         refine⟨_,_,_,_,_,_,_,_,_,_,_,_,_,_,_,_,?_,rfl⟩
         have hgg:jN≠wj.heap.size:=by
          rcases kX with h|h
          ·exact hT.out.2.1 jN h
          ·omega
         refine⟨i+1,zo,by(first|rw[E1.out] |skip);rw[MF.out];congr 1;push_cast;omega,ext s 2 nv,hid ⟨?_,fun g hg=>by cases hg;exact hgg,?_,fun x=>by funext y;simp only[ext];split <;> rfl,ME.out.trans (below_grown aN (by rw[Sz.out];omega) (fun g hg=>(bL hT.out.1 hg).1))⟩⟩
         ·rw[mY,List.map_append,← List.append_assoc,mH,← MF.out]
          have e:kM (List.map (fun n=>ext s 2 n) [nv])=[int i64 (z 0),int i64 (z 1),int i64 nv]:=by
           rw[List.map_singleton,← HZ.out];rfl
          rw[e]
          exact hown5
         ·rw[← HZ.out]
          exact tk.out.grown aN (fun e=>by exact absurd rfl (hT.out.2.1 _ e.symm))
        case measure=>have:=HC.out;have:=MF.out;simp[intOf];omega
      ·obtain rfl:i=cnt:=zo
       have hd:decide (lo+(i:Int)≤hi)=false:=decide_eq_false (by have:=HC.out;omega)
       gi_wp2
       go_roundw
       case rel=>
        refine⟨q+1,zo,by go_num,hid ⟨?_,hT.out.2.2.2.2⟩⟩
        have e:(l0.take (q+1)).flatMap f=(l0.take q).flatMap f ++ (aX lo i).map fun n=>ext s k n:=by
         rw[List.take_add_one,List.flatMap_append]
         congr 1
         rw[show l0[q]? =some s by rw[HS.out];simp[show q<l0.length by rw[← HN.out];exact hq2],HFF.out]
         simp
        rw[e,Nat.succ_mul]
        exact hT.out.1
       case measure=>simp[intOf];omega
    ·obtain rfl:q=N:=zo
     obtain⟨A2,p2,h29⟩:=fZ hS.out.1
     obtain⟨rfl,rfl,rfl⟩:A2=A9∧n9=q * cnt∧p2=p9:=by injection h29 with a b c;exact⟨a.symm,b,c.symm⟩
     gi_wp2
     go_roundw
     case rel=>
      have e:(l0.take q).flatMap f=L (k+1):=by
       rw[HL1.out,← sX.out,List.take_of_length_le (by rw[← HN.out];exact zL)]
      have el:q * cnt=(L (k+1)).length:=by
       rw[← e,HFN.out,List.length_take,← HN.out,Nat.min_self]
      refine⟨k+1,zo,by go_num,A2,p2,by rw[el],hid ⟨?_,hR.out.2.1.trans ((GB.out.mono zo).trans (hS.out.2.mono zo)),fun ad8 h8=>by
       subst h8
       have:=(bL hS.out.1 (g:=ad8.block) rfl).1
       omega⟩⟩
      rw[← el]
      intro hn0
      obtain⟨gb,cp,hv,_,S8⟩:=hS.out.1.form hn0
      have hA8:A2=some ⟨gb,0,none⟩:=by injection hv
      subst hA8
      refine⟨_,rfl,S8,fun i j hi hj=>?_⟩
      have hc:=hS.out.1.cells (g:=gb) rfl (i * 3+j) (int i64 ((L (k+1)).getD i (fun _=>0) j)) (by rw[e];exact GY _ (by rw[← el];exact hi) hj)
      exact hc
     case measure=>simp[intOf];omega
  ·obtain rfl:k=ng:=zo
   gi_wp2
   go_ret
   exact⟨A,p,rfl,hR.out.1,hR.out.2.2,(zB.alloc zL _).trans (hR.out.2.1.mono zs)⟩
end
section
open Go Go.RowKit
structure Keeps(C:Nat→Prop)(A B:World):Prop where
 os:B.os=A.os
 tape:B.tape=A.tape
 output:B.output=A.output
 size:A.heap.size≤B.heap.size
 block:∀b,b<A.heap.size→¬ C b→B.heap[b]? =A.heap[b]?
section
variable{C C':Nat→Prop}{A B D:World}
theorem Keeps.refl(C:Nat→Prop)(A:World):Keeps C A A:=⟨rfl,rfl,rfl,zL,fun _ _ _=>rfl⟩
theorem Keeps.trans(h:Keeps C A B)(k:Keeps C B D):Keeps C A D:=
 ⟨k.os.trans h.os,k.tape.trans h.tape,k.output.trans h.output,Nat.le_trans h.size k.size,fun b hb hc=>(k.block b (Nat.lt_of_lt_of_le hb h.size) hc).trans (h.block b hb hc)⟩
theorem Keeps.more(h:Keeps C A B)(hC:∀b,b<A.heap.size→C b→C' b):Keeps C' A B:=⟨h.os,h.tape,h.output,h.size,fun b hb hc=>h.block b hb fun k=>hc (hC b hb k)⟩
theorem Keeps.of_below{n:Nat}(h:Below n A B)(hC:∀b,n≤b→b<A.heap.size→C b):Keeps C A B:=
 ⟨h.os,h.tape,h.output,h.size,fun b hb hc=>h.block b (Nat.lt_of_not_le fun k=>hc (hC b k hb))⟩
theorem Keeps.bI(h:Below A.heap.size A B):Keeps C A B:=Keeps.of_below h fun b h1 h2=>zo
theorem Keeps.below{n:Nat}(h:Keeps C A B)(hC:∀b,b<n→¬ C b)(hn:n≤A.heap.size):Below n A B:=⟨h.os,h.tape,h.output,h.size,fun b hb=>h.block b zo (hC b hb)⟩
theorem Keeps.cell(h:Keeps C A B){p:Addr}(hp:p.block<A.heap.size)(hC:¬ C p.block):B.cell? p=A.cell? p:=by
 unfold World.cell?
 rw[h.block _ hp hC]
theorem Keeps.frozen(h:Keeps C A B){p:Addr}(hp:p.block<A.heap.size)(hC:¬ C p.block):B.frozen? p=A.frozen? p:=by
 unfold World.frozen?
 rw[h.block _ hp hC]
theorem Keeps.set{p:Addr}(h:Keeps C A B)(hp:C p.block)(u:Value):Keeps C A (B.setCell p u):=
 h.trans ⟨rfl,rfl,rfl,by simp[World.setCell],fun b _ hc=>Below.heap_setCell _ _ _ _ (fun e=>hc (e ▸ hp))⟩
end
structure Same(l:Nat)(A B:World):Prop where
 os:B.os=A.os
 tape:B.tape=A.tape
 output:B.output=A.output
 size:B.heap.size=A.heap.size
 block:∀b,b≠l→B.heap[b]? =A.heap[b]?
 loop:∃r,B.heap[l]? =some (.loop r)
theorem oo{l:Nat}{A:World}(h:l<A.heap.size)(r:Loop):Same l A (A.putObj l (.loop r)):=
 ⟨rfl,rfl,rfl,by simp[World.putObj],fun b hb=>World.putObj_heap_other hb,r,World.putObj_heap_same h⟩
theorem Same.below{l:Nat}{A B:World}(h:Same l A B){n:Nat}(hn:n≤l):Below n A B:=⟨h.os,h.tape,h.output,by rw[h.size];exact zL,fun b hb=>h.block b zo⟩
theorem Same.keeps{l:Nat}{A B:World}(h:Same l A B){C:Nat→Prop}(hC:C l):Keeps C A B:=⟨h.os,h.tape,h.output,by rw[h.size];exact zL,fun b _ hc=>h.block b (fun e=>hc (e ▸ hC))⟩
def wR(C:Nat→Prop)(N:World→Prop)(X:Code→World→Prop)(W:World):Exit→Act→World→Prop
 | .normal,_,W'=>Keeps C W W'∧N W'
 | .ret,_,W'=>Keeps C W W'∧X .ret W'
 | .exit id,_,W'=>Keeps C W W'∧X (.exit id) W'
 | .goto t,_,W'=>Keeps C W W'∧X (.goto t) W'
 | .panic _,_,_=>False
 | .outgrown,_,_=>False
theorem MB{F:Fence}{P:Program}{l:Nat}{r:Loop}{args:Array Value}{C:Nat→Prop}{W:World}{N:World→Prop}{X:Code→World→Prop}(hl:W.heap[l]? =some (.loop r))(hr:r.state=.ready)(hp:r.pending=none)(hfn:F.fn r.fn)(hsz:args.size=r.params.size)(hC:¬ C l)
 (h:r.assign.wpIn (F.inRound l) 0 P (Exit.then (fun a1 W1=>Below W.heap.size W W1∧∀W2,Same l W1 W2→r.body.wpIn (F.inRound l) 0 P (wR C N X W2) a1 W2) (fun _ _ _=>False)) {tmps:=(r.params.zip args).foldl (fun t (p,v)=>t.setIfInBounds p v) r.tmps,defers:=[] } W):
 YieldAt F 0 P l args W fun e B=>Keeps (fun b=>C b∨b=l) W B∧((e=.returned (.bool true)∧B.heap[l]? =some (.loop r)∧∃W3,N W3∧Same l W3 B)∨(e=.returned (.bool false)∧∃c,B.heap[l]? =some (.loop {r with state:=.done,pending:=some c })∧∃W3,X c W3∧Same l W3 B)):=by
 have hlt:l<W.heap.size:=(Array.getElem?_eq_some_iff.1 hl).1
 refine⟨r.fn,_,r.assign,r.body,run_yield hl hsz,roundIn_of_wpIn hfn (wpIn_mono h ?_)⟩
 rintro e a1 W1 hx
 cases e with
 | normal=>
   obtain⟨hb1,hbody⟩:=hx
   have hl1:W1.heap[l]? =some (.loop r):=(hb1.block l hlt).trans hl
   have hlt1:l<W1.heap.size:=(Array.getElem?_eq_some_iff.1 hl1).1
   refine⟨_,run_beginRound hl1 hr,wpIn_mono (hbody _ (oo hlt1 _)) ?_⟩
   have hl2:(W1.putObj l (.loop {r with state:=.busy })).heap[l]? =some (.loop {r with state:=.busy }):=World.putObj_heap_same hlt1
   have hk1:Keeps (fun b=>C b∨b=l) W W1:=Keeps.bI hb1
   have hk2:Keeps (fun b=>C b∨b=l) W1 (W1.putObj l (.loop {r with state:=.busy })):=(oo hlt1 _).keeps (.inr rfl)
   have fin:∀ (jump:Option Code) (W3:World),Keeps C (W1.putObj l (.loop {r with state:=.busy })) W3→
    ∃B,(Instr.endRound l jump).run P W3=.ok (.bool jump.isNone) B∧Keeps (fun b=>C b∨b=l) W B∧B.heap[l]? =some (.loop {r with state:=if jump.isNone then .ready else .done,pending:=jump })∧Same l W3 B:=fun jump W3 hk3=>by
    have hl3:W3.heap[l]? =some (.loop {r with state:=.busy }):=(hk3.block l (by simp[World.putObj];exact hlt1) hC).trans hl2
    have hlt3:l<W3.heap.size:=(Array.getElem?_eq_some_iff.1 hl3).1
    have hs:=oo (A:=W3) hlt3 {r with state:=if jump.isNone then .ready else .done,pending:=jump }
    refine⟨_,run_endRound jump hl3,?_,World.putObj_heap_same hlt3,hs⟩
    exact((hk1.trans hk2).trans (hk3.more fun b _ h=>.inl h)).trans (hs.keeps (.inr rfl))
   rintro e a3 W3 hq
   cases e with
   | normal=>
     obtain⟨hk3,hn⟩:=hq
     obtain⟨B,hr1,hk,hlB,hs⟩:=fin none W3 hk3
     refine⟨_,_,hr1,hk,.inl ⟨rfl,?_,W3,hn,hs⟩⟩
     rw[hlB]
     obtain⟨st,pe,_,_,_,_,_,_⟩:=r
     cases hr
     cases hp
     rfl
   | ret=>
     obtain⟨hk3,hn⟩:=hq
     obtain⟨B,hr1,hk,hlB,hs⟩:=fin (some .ret) W3 hk3
     exact⟨_,_,hr1,hk,.inr ⟨rfl,.ret,hlB,W3,hn,hs⟩⟩
   | exit id=>
     obtain⟨hk3,hn⟩:=hq
     obtain⟨B,hr1,hk,hlB,hs⟩:=fin (some (.exit id)) W3 hk3
     exact⟨_,_,hr1,hk,.inr ⟨rfl,.exit id,hlB,W3,hn,hs⟩⟩
   | goto t=>
     obtain⟨hk3,hn⟩:=hq
     obtain⟨B,hr1,hk,hlB,hs⟩:=fin (some (.goto t)) W3 hk3
     exact⟨_,_,hr1,hk,.inr ⟨rfl,.goto t,hlB,W3,hn,hs⟩⟩
   | panic ch=>exact hq.elim
   | outgrown=>exact hq.elim
 | exit id=>exact hx.elim
 | goto t=>exact hx.elim
 | ret=>exact hx.elim
 | panic chain=>exact hx.elim
 | outgrown=>exact hx.elim
def Iter{α:Type}(F:Fence)(P:Program)(g:Nat)(lb:Array Value)(encs:α→Array Value)(xs:List α)(C:Nat→Prop)(W:World):Prop:=
 ∀ (l:Nat) (J Jx:List α→World→Prop),
   (∀pre A B,J pre A→Below W.heap.size A B→J pre B)→(∀pre A B,Jx pre A→Below W.heap.size A B→Jx pre B)→
   (∀pre x A,pre ++ [x]<+:xs→J pre A→Keeps C W A→YieldAt F 0 P l (encs x) A fun e B=>Keeps C A B∧((e=.returned (.bool true)∧J (pre ++ [x]) B)∨(e=.returned (.bool false)∧Jx (pre ++ [x]) B)))→
   J [] W→
   CallsIn F 0 P g (#[.func (.yield l) #[] #[]] ++ lb) W fun e B=>(∃v,e=.returned v)∧Keeps C W B∧(J xs B∨∃pre,pre<+:xs∧Jx pre B)
theorem Iter.inRound{α:Type}{F:Fence}{P:Program}{g:Nat}{lb:Array Value}{encs:α→Array Value}{xs:List α}{C:Nat→Prop}{W:World}(l:Nat)(h:Iter F P g lb encs xs C W):Iter (F.inRound l) P g lb encs xs C W:=h
theorem iR{F:Fence}{P:Program}{α:Type}{g:Operand}{ps:Array Tmp}{assign body:Code}{Q:Exit→Act→World→Prop}{a:Act}{w:World}(hro:F.round=none)(hd:F.depth=none)
 {gf:Nat}{lb:Array Value}(hg:a.eval g=.func (.func gf) #[] lb)(hFg:F.fn gf)(eg:∀args w,(callFunc gf args).run P w=.ok (.enter gf args) w)
 {encs:α→Array Value}{xs:List α}{C:Nat→Prop}(hC:∀b,C b→b<w.heap.size)
 (hseq:∀W1,Below w.heap.size w W1→W1.heap.size=w.heap.size+2→Iter F P gf lb encs xs (fun b=>C b∨b=w.heap.size∨b=w.heap.size+1) W1)(hps:∀x,(encs x).size=ps.size)
 (I:List α→World→Prop)(Ix:Code→List α→World→Prop)(hI:∀pre A B,I pre A→Below w.heap.size A B→I pre B)(hIx:∀c pre A B,Ix c pre A→Below w.heap.size A B→Ix c pre B)(h0:I [] w)
 (gI:∀ (l:Nat) (pre:List α) (x:α) (W:World),l=w.heap.size+1→pre ++ [x]<+:xs→I pre W→Keeps C w W→w.heap.size+2≤W.heap.size→(∃r,W.heap[l]? =some (.loop r))→
  assign.wpIn (F.inRound l) 0 P (Exit.then (fun a1 W1=>Below W.heap.size W W1∧∀W2,Same l W1 W2→body.wpIn (F.inRound l) 0 P (wR C (I (pre ++ [x])) (fun c=>Ix c (pre ++ [x])) W2) a1 W2) (fun _ _ _=>False)) {tmps:=(ps.zip (encs x)).foldl (fun t (p,v)=>t.setIfInBounds p v) a.tmps,defers:=[] } W)
 (hdone:∀W,I xs W→Keeps C w W→W.heap[w.heap.size]? =some (.deferred (some []))→Q .normal {a with defers:={target:=.collected w.heap.size,args:=#[] } :: a.defers } W)
 (hstop:∀c pre W,pre<+:xs→Ix c pre W→Keeps C w W→W.heap[w.heap.size]? =some (.deferred (some []))→c.wpIn F 0 P Q {a with defers:={target:=.collected w.heap.size,args:=#[] } :: a.defers } W):
 (Code.rangeFunc g ps assign body).wpIn F 0 P Q a w:=by
 refine wpIn_rangeFunc ?_
 intro fn hfn
 rw[hro]
 obtain⟨rec,hrec⟩:∃rec:LoopState→Option Code→Loop,rec=fun st pe=>{state:=st,pending:=pe,fn,tmps:=a.tmps,params:=ps,assign,body,defers:=w.heap.size }:=⟨_,rfl⟩
 obtain⟨W1,hW1⟩:∃W1,(w.alloc (.deferred (some []))).alloc (.loop (rec .ready none))=W1:=⟨_,rfl⟩
 have hL1:W1.heap[w.heap.size+1]? =some (.loop (rec .ready none)):=by
  rw[← hW1];have:=World.alloc_heap_new (w.alloc (.deferred (some []))) (.loop (rec .ready none));rwa[World.size_alloc] at this
 have hK1:W1.heap[w.heap.size]? =some (.deferred (some [])):=by
  rw[← hW1];exact(Below.heap_alloc _ _ _ zs).trans (World.alloc_heap_new w _)
 have hb1:Below w.heap.size w W1:=by
  rw[← hW1];exact((Below.refl _ w).alloc zL _).alloc zs _
 have hs1:W1.heap.size=w.heap.size+2:=by rw[← hW1];simp
 have hback:∀W,Keeps (fun b=>C b∨b=w.heap.size∨b=w.heap.size+1) W1 W→Keeps C w W:=fun W hk=>by
  refine⟨hk.os.trans hb1.os,hk.tape.trans hb1.tape,hk.output.trans hb1.output,by have:=hk.size;omega,fun b hb hc=>?_⟩
  exact(hk.block b zo (by rintro(h|h|h) <;> first|exact hc h|omega)).trans (hb1.block b hb)
 have he:∀ (pe:Option Code) (W2:World),W2.heap[w.heap.size+1]? =some (.loop (rec (if pe.isNone then .ready else .done) pe))→(Instr.endLoop (w.heap.size+1)).run P W2=.ok pe (W2.putObj (w.heap.size+1) (.loop {rec (if pe.isNone then .ready else .done) pe with state:=.exhausted })):=fun pe W2 h=>by
  have hp:(rec (if pe.isNone then .ready else .done) pe).pending=pe:=by rw[hrec]
  have:=run_endLoop (P:=P) h (by rw[hrec];cases pe <;> simp)
  exact this.trans (congrArg (fun o=>Result.ok o _) hp)
 refine⟨w.heap.size+1,[{target:=.collected w.heap.size,args:=#[] }],W1,{target:=.fn (.func gf) lb,args:=#[.func (.yield (w.heap.size+1)) #[] #[]] },W1,gf,
  #[.func (.yield (w.heap.size+1)) #[] #[]] ++ lb,W1,?_,?_,?_,?_,(fun h=>by rw[hd] at h;cases h),?_⟩
 ·rw[← hW1,hrec];exact run_enterLoop_outer _ _ _ _ _
 ·simp only[resolve,hg]
  simp[go_sem]
 ·intro f' hf';simp[Target.leads] at hf';subst hf';exact hFg
 ·simp[invoke,go_sem,eg]
 ·refine(hseq W1 hb1 hs1 (w.heap.size+1)
   (fun pre W=>I pre W∧W.heap[w.heap.size+1]? =some (.loop (rec .ready none))∧W.heap[w.heap.size]? =some (.deferred (some [])))
   (fun pre W=>∃c,Ix c pre W∧W.heap[w.heap.size+1]? =some (.loop (rec .done (some c)))∧W.heap[w.heap.size]? =some (.deferred (some [])))
   (fun pre A B h hb=>⟨hI pre A B h.1 (hb.mono zo),(hb.block _ zo).trans h.2.1,(hb.block _ zo).trans h.2.2⟩)
   (fun pre A B h hb=>by
    obtain⟨c,h1,h2,h3⟩:=h
    exact⟨c,hIx c pre A B h1 (hb.mono zo),(hb.block _ zo).trans h2,(hb.block _ zo).trans h3⟩)
   ?_ ⟨hI [] _ _ h0 hb1,hL1,hK1⟩).mono ?_
  ·rintro pre x W hpre ⟨hi,hl,hk⟩ hkp
   obtain⟨fn',tmps,ay,bd,hy,hR⟩:=MB (F:=F) (P:=P) (args:=encs x) (C:=C) (N:=I (pre ++ [x])) (X:=fun c=>Ix c (pre ++ [x])) hl (by rw[hrec]) (by rw[hrec]) (by rw[hrec];exact hfn) (by rw[hrec];exact hps x) (fun h=>by have:=hC _ h;omega)
    (by
     have:=gI (w.heap.size+1) pre x W rfl hpre hi (hback W hkp) (by have:=hkp.size;omega) ⟨_,hl⟩
     rw[hrec]
     exact this)
   refine⟨fn',tmps,ay,bd,hy,hR.mono ?_⟩
   rintro e B ⟨hkB,(⟨rfl,hlB,W3,hn,hs⟩|⟨rfl,c,hlB,W3,hn,hs⟩)⟩
   ·have hDl:B.heap[w.heap.size]? =some (.deferred (some [])):=(hkB.block _ (by have:=hkp.size;omega) (fun h=>h.elim (fun h=>by have:=hC _ h;omega) (fun h=>zo))).trans hk
    exact⟨hkB.more (fun b _ h=>h.elim .inl fun h=>.inr (.inr h)),.inl ⟨rfl,hI _ _ _ hn (hs.below zo),hlB,hDl⟩⟩
   ·have hDl:B.heap[w.heap.size]? =some (.deferred (some [])):=(hkB.block _ (by have:=hkp.size;omega) (fun h=>h.elim (fun h=>by have:=hC _ h;omega) (fun h=>zo))).trans hk
    exact⟨hkB.more (fun b _ h=>h.elim .inl fun h=>.inr (.inr h)),.inr ⟨rfl,c,hIx _ _ _ _ hn (hs.below zo),by rw[hrec] at hlB⊢;exact hlB,hDl⟩⟩
  ·rintro e W2 ⟨⟨v,rfl⟩,hkW,(⟨hi,hl,hk⟩|⟨pre,hpre,c,hi,hl,hk⟩)⟩
   ·have hlt:w.heap.size+1<W2.heap.size:=(Array.getElem?_eq_some_iff.1 hl).1
    have hs:=oo hlt {rec .ready none with state:=.exhausted }
    have S0:=hkW.trans (hs.keeps (C:=fun b=>C b∨b=w.heap.size∨b=w.heap.size+1) (.inr (.inr rfl)))
    exact⟨none,_,he none _ hl,hdone _ (hI _ _ _ hi (hs.below zo)) (hback _ S0) ((World.putObj_heap_other zo).trans hk)⟩
   ·have hlt:w.heap.size+1<W2.heap.size:=(Array.getElem?_eq_some_iff.1 hl).1
    have hs:=oo hlt {rec .done (some c) with state:=.exhausted }
    have S0:=hkW.trans (hs.keeps (C:=fun b=>C b∨b=w.heap.size∨b=w.heap.size+1) (.inr (.inr rfl)))
    exact⟨some c,_,he (some c) _ hl,hstop c pre _ hpre (hIx c _ _ _ hi (hs.below zo)) (hback _ S0) ((World.putObj_heap_other zo).trans hk)⟩
end
section
open Go.RowKit
open Go.Sort (grow)
def dU(h:Ht)(k:Nat)(n:Int):Ht:=⟨h.f,fun i=>if i=k then n else h.m i,h.lies⟩
def eu(b:Bk):Nat→Nat→Ht→(Nat→Int)→List Ht
 | 0,k,h,s=>if iO b s (gM b k) (gL b k)=true then[h] else[]
 | Nat.succ n,k,h,s=>if iO b s (gM b k) (gL b k)=true then(aX (b.m k).lo ((b.m k).hi - (b.m k).lo+1).toNat).flatMap fun x=>eu b n (k+1) (dU h k x) (Bh b s (dU h k x) k) else[]
def gy(b:Bk)(lies:Nat):List Ht:=(aR b b.ng).flatMap fun s=>eu b b.nm 0 ⟨s,fun _=>0,lies⟩ s
def aB(b:Bk)(ls:List Nat):List Ht:=(ls.filter fun s=>decide (pop s≤b.mO)).flatMap fun s=>gy b s
structure FM(b:Bk)(C:Nat→Prop)(N0 Bb By Bf l:Nat)(W:World):Prop where
 wb:Whole W Bb 73 b.cells
 wy:Whole W By 108 #[.func (.yield l) #[] #[]]
 wf:Whole W Bf 150 #[.func (.func 105) #[] #[.pointer (some ⟨Bb,0,none⟩),.pointer (some ⟨By,0,none⟩),.pointer (some ⟨Bf,0,none⟩)]]
 at_:b.At W N0
 n0:N0≤W.heap.size
 cb:¬ C Bb
 cy:¬ C By
 cf:¬ C Bf
 cn:∀x,x<N0→¬ C x
theorem Whole.keeps{C:Nat→Prop}{w w':World}{b:Nat}{t:TypeId}{cs:Array Value}(h:Whole w b t cs)(hk:Keeps C w w')(hc:¬ C b):Whole w' b t cs:=h.of (hk.block b h.lt hc)
theorem Rows.keeps{C:Nat→Prop}{w w':World}{B size n:Nat}{A:Option Addr}{f:Nat→Nat→Value}(h:Rows w B size A n f)(hk:Keeps C w w')(hB:B≤w.heap.size)(hc:∀x,x<B→¬ C x):Rows w' B size A n f:=
 h.keep fun p hp=>hk.cell zo (hc _ hp)
theorem Bk.At.keeps{b:Bk}{C:Nat→Prop}{w w':World}{B:Nat}(h:b.At w B)(hk:Keeps C w w')(hB:B≤w.heap.size)(hc:∀x,x<B→¬ C x):b.At w' B:=
 ⟨h.g.keeps hk hB hc,h.m.keeps hk hB hc,h.c.keeps hk hB hc,h.ng,h.nm,h.nc,h.name⟩
theorem FM.keeps{b:Bk}{C:Nat→Prop}{N0 Bb By Bf l:Nat}{W W':World}(h:FM b C N0 Bb By Bf l W)(hk:Keeps C W W'):FM b C N0 Bb By Bf l W':=
 ⟨h.wb.keeps hk h.cb,h.wy.keeps hk h.cy,h.wf.keeps hk h.cf,h.at_.keeps hk h.n0 h.cn,Nat.le_trans h.n0 hk.size,h.cb,h.cy,h.cf,h.cn⟩
theorem OP{f m:Nat→Int}{l k:Nat}(hk:k<6)(n:Int):((⟨f,m,l⟩:Ht).cells).setIfInBounds (3+k) (int i64 n)=(⟨f,fun i=>if i=k then n else m i,l⟩:Ht).cells:=by
 rcases(show k=0∨k=1∨k=2∨k=3∨k=4∨k=5 by omega) with rfl|rfl|rfl|rfl|rfl|rfl <;> rfl
theorem Tw{f m:Nat→Int}{l k:Nat}(hk:k<6):((⟨f,m,l⟩:Ht).cells)[3+k]? =some (int i64 (m k)):=by
 rcases(show k=0∨k=1∨k=2∨k=3∨k=4∨k=5 by omega) with rfl|rfl|rfl|rfl|rfl|rfl <;> rfl
theorem Keeps.then{C C1:Nat→Prop}{A B D:World}(h:Keeps C A B)(k:Keeps C1 B D)(hc:∀b,b<A.heap.size→C1 b→C b):Keeps C A D:=
 ⟨k.os.trans h.os,k.tape.trans h.tape,k.output.trans h.output,Nat.le_trans h.size k.size,fun b hb hn=>(k.block b (Nat.lt_of_lt_of_le hb h.size) (fun h1=>hn (hc b hb h1))).trans (h.block b hb hn)⟩
theorem uD(b:Bk)(h:kF b):∀k,k≤b.ng→∀s∈aR b k,∀q,q<3→0≤s q∧s q≤99
 | 0,_,s,hs,q,_=>by
   obtain rfl:s=fun _=>0:=by simpa [aR] using hs
   simp
 | Nat.succ k,hk,s,hs,q,hq=>by
   have hf:=jc (h.2 k zo).few
   simp only[aR] at hs
   obtain⟨s0,hs0,hs1⟩:=List.mem_flatMap.1 hs
   obtain⟨n,hn,rfl⟩:=List.mem_map.1 hs1
   have ih:=uD b h k zo s0 hs0 q hq
   unfold aX at hn
   obtain⟨i,hi,rfl⟩:=List.mem_map.1 hn
   have hi':=List.mem_range.1 hi
   unfold ext
   split <;> omega
end
section
open Go
def FW(p:FuncId→Prop):Fence:={fn:=p }
@[simp] theorem uk(p:FuncId→Prop):(FW p).depth=none:=rfl
@[simp] theorem ur(p:FuncId→Prop):(FW p).round=none:=rfl
class Ba(p:FuncId→Prop):Prop where
 fn:∀g,SF.fn g→p g
instance:Ba SF.fn:=⟨fun _ h=>h⟩
instance:Ba FF.fn:=⟨fun _ h=>IW h⟩
section
variable{p:FuncId→Prop}[Ba p]
@[simp] theorem FC{g:FuncId}(h:SF.fn g):(FW p).fn g:=show p g from Ba.fn g h
theorem CallsIn.wide{n:Nat}{P:Program}{f:FuncId}{args:Array Value}{w:World}{R:Ending→World→Prop}(h:CallsIn SF n P f args w R):CallsIn (FW p) n P f args w R:=by
 refine⟨FC h.1,fun cs _=>?_⟩
 obtain⟨e,w',fr,r,hs,rest⟩:=h.2 cs (fun d hd=>by cases hd)
 have hm:∀m:Machine,m.fenced P SF→m.fenced P (FW p):=fun m hm g hg=>by
  obtain⟨a,b,c,d⟩:=hm g hg
  exact⟨a,b.imp FC id,fun f hf=>FC (c f hf),fun d hd=>by cases hd⟩
 refine⟨e,w',fr,r,?_,rest⟩
 cases e with
 | returned v=>exact gq hm hs
 | panicked c=>exact gq hm hs
 | outgrown=>exact hs
end
end
section
open Go.RowKit
open Go.Sort (grow)
attribute [local go_sem] Oper.semAt_some
theorem jx{p:FuncId→Prop}[Ba p](b:Bk)(ok:b.Ok)(C:Nat→Prop)(N0 Bb By Bf l:Nat)(W0:World)(J Jx:List Ht→World→Prop)(xs:List Ht)(hC:∀x,C x→x<W0.heap.size)
 (hJ:∀pre A B,J pre A→Below W0.heap.size A B→J pre B)
 (hY:∀pre x A,pre ++ [x]<+:xs→J pre A→Keeps C W0 A→YieldAt (FW p) 0 prog l #[x.val] A fun e B=>Keeps C A B∧((e=.returned (.bool true)∧J (pre ++ [x]) B)∨(e=.returned (.bool false)∧Jx (pre ++ [x]) B))):
 ∀ (fuel k:Nat) (h:Ht) (s:Nat→Int) (pre:List Ht) (W:World),k+fuel=b.nm→FM b C N0 Bb By Bf l W→Keeps C W0 W→J pre W→(pre ++ eu b fuel k h s)<+:xs→(∀q,q<3→-99 * (k:Int)≤s q∧s q≤99 * ((k:Int)+1))→h.lies<64→
   CallsIn (FW p) 0 prog 105 #[h.val,mD s,int i64 k,.pointer (some ⟨Bb,0,none⟩),.pointer (some ⟨By,0,none⟩),.pointer (some ⟨Bf,0,none⟩)] W fun e W'=>Keeps C W W'∧((e=.returned (.bool true)∧J (pre ++ eu b fuel k h s) W')∨(e=.returned (.bool false)∧∃q,q<+:eu b fuel k h s∧Jx (pre ++ q) W')):=by
 have HhC:=hid hC
 have gr:=hid hJ
 have HhY:=hid hY
 clear hC hJ hY
 intro fuel
 induction fuel with
 | zero=>
   intro k h s pre W hkn hM q7 hj hpre hs hl
   have Uk:=ok.moves.1
   have El:∀w,b.At w w.heap.size→CallsIn (FW p) 0 prog 107 #[b.val,int i64 k] w fun e w'=>e=.returned (.agg #[int i64 (gM b k),int i64 (gL b k)])∧Below w.heap.size w w':=fun w hA=>CallsIn.wide (Dp b k w hA zo ok.moves.1 (fun i hi=>by have:=(ok.moves.2 i hi).day;have:=ok.dY;omega))
   have Tq:∀w,b.At w w.heap.size→CallsIn (FW p) 0 prog 106 #[b.val,mD s,.agg #[int i64 (gM b k),int i64 (gL b k)]] w fun e w'=>e=.returned (.bool (iO b s (gM b k) (gL b k)))∧Below w.heap.size w w':=fun w hA=>CallsIn.wide (CP b s _ _ w hA ok.counts.1 (fun i hi=>by have:=(ok.counts.2 i hi).good;have:=ok.bX.1;omega))
   obtain⟨L1,hL1⟩:∃x,x=gM b k:=zE
   obtain⟨L2,hL2⟩:∃x,x=gL b k:=zE
   obtain⟨R,hR⟩:∃R,R=iO b s (gM b k) (gL b k):=zE
   have hfl:eu b 0 k h s=if R=true then[h] else[]:=by rw[hR];rfl
   rw[← hL1,← hL2] at El Tq
   rw[← hL1,← hL2] at hR
   rw[← hR] at Tq
   rw[hfl] at hpre⊢
   have hbk:b.nm=k:=zo
   clear hfl hL1 hL2 hR hs
   obtain⟨dY,mO,gA,ng,gc,g,mA,nm,mc,m,cA,nc,cc,c⟩:=b
   simp only at Uk hbk
   subst hbk
   have hdk:decide ((nm:Int)=(nm:Int))=true:=decide_eq_true rfl
   have HOK:=hid ok
   clear ok hkn
   obtain⟨hf,hmm,lies⟩:=h
   simp only[Bk.val,Bk.cells,mD] at El Tq
   have fS:=hid El
   have Mo:=hid Tq
   have HM:=hid hM
   have Ot:=hid q7
   have sR:=hid hj
   have tf:=hid hpre
   clear El Tq hM q7 hj hpre
   simp only[mD,Ht.val,Ht.cells]
   obtain⟨w2,hw2⟩:∃w2,w2=(W.alloc (.cells #[int i64 (hf 0),int i64 (hf 1),int i64 (hf 2),int i64 (hmm 0),int i64 (hmm 1),int i64 (hmm 2),int i64 (hmm 3),int i64 (hmm 4),int i64 (hmm 5),int i64 lies] 91)).alloc (.cells #[int i64 (s 0),int i64 (s 1),int i64 (s 2)] 88):=zE
   have H2:Hid (Whole w2 W.heap.size 91 #[int i64 (hf 0),int i64 (hf 1),int i64 (hf 2),int i64 (hmm 0),int i64 (hmm 1),int i64 (hmm 2),int i64 (hmm 3),int i64 (hmm 4),int i64 (hmm 5),int i64 lies]):=hid (by rw[hw2];exact(Whole.new _ _ _).alloc _)
   have S2:Hid (Whole w2 (W.heap.size+1) 88 #[int i64 (s 0),int i64 (s 1),int i64 (s 2)]):=hid (by
    have:=Whole.new (W.alloc (.cells #[int i64 (hf 0),int i64 (hf 1),int i64 (hf 2),int i64 (hmm 0),int i64 (hmm 1),int i64 (hmm 2),int i64 (hmm 3),int i64 (hmm 4),int i64 (hmm 5),int i64 lies] 91)) 88 #[int i64 (s 0),int i64 (s 1),int i64 (s 2)]
    rw[World.size_alloc] at this;rw[hw2];exact this)
   have B2:Hid (Below W.heap.size W w2):=hid (by rw[hw2];exact bw)
   have M2:=hid (HM.out.keeps (Keeps.bI B2.out))
   have FQ:=hid hw2
   clear hw2
   have q0:∀d os,(grow (redrawn w2 d) os).cell? ⟨Bb,0,none⟩=some (int i64 dY):=cell_regrown (M2.out.wb.cell 0)
   have q1:∀d os,(grow (redrawn w2 d) os).cell? ⟨Bb,1,none⟩=some (int i64 mO):=cell_regrown (M2.out.wb.cell 1)
   have q2:∀d os,(grow (redrawn w2 d) os).cell? ⟨Bb,2,none⟩=some (.slice gA ng gc):=cell_regrown (M2.out.wb.cell 2)
   have q3:∀d os,(grow (redrawn w2 d) os).cell? ⟨Bb,3,none⟩=some (.slice mA nm mc):=cell_regrown (M2.out.wb.cell 3)
   have q4:∀d os,(grow (redrawn w2 d) os).cell? ⟨Bb,4,none⟩=some (.slice cA nc cc):=cell_regrown (M2.out.wb.cell 4)
   have r0:=cell_regrown (S2.out.cell 0)
   have r1:=cell_regrown (S2.out.cell 1)
   have r2:=cell_regrown (S2.out.cell 2)
   have cS:∀d os,CallsIn (FW p) 0 prog 107 #[.agg #[int i64 dY,int i64 mO,.slice gA ng gc,.slice mA nm mc,.slice cA nc cc],int i64 nm] (grow (redrawn w2 d) os) fun e w''=>e=.returned (.agg #[int i64 L1,int i64 L2])∧∃p:Regrown,w''=grow (redrawn w2 p.d) p.os:=fun d os=>CallsIn.regrown_of (fS.out _ (((M2.out.at_.more M2.out.n0).below (below_regrown w2 d os)).more (below_regrown w2 d os).size))
   have cR:∀d os,CallsIn (FW p) 0 prog 106 #[.agg #[int i64 dY,int i64 mO,.slice gA ng gc,.slice mA nm mc,.slice cA nc cc],.agg #[int i64 (s 0),int i64 (s 1),int i64 (s 2)],.agg #[int i64 L1,int i64 L2]] (grow (redrawn w2 d) os) fun e w''=>e=.returned (.bool R)∧∃p:Regrown,w''=grow (redrawn w2 p.d) p.os:=fun d os=>CallsIn.regrown_of (Mo.out _ (((M2.out.at_.more M2.out.n0).below (below_regrown w2 d os)).more (below_regrown w2 d os).size))
   gi_enter func105,ntmps105
   gi_wp2
   rw[← FQ.out]
   cases R
   ·refine wpIn_region_quiet_below rfl zk zk ?_
    repeat (quiet_step_in (first|exact cS _ _|exact cR _ _))
    refine wpQuietIn_nil ?_
    rintro w' ⟨⟨dq,osq⟩,rfl⟩
    have bg:=below_regrown w2 dq osq
    clear q0 q1 q2 q3 q4 r0 r1 r2 cS cR
    generalize grow (redrawn w2 dq) osq=w3 at bg⊢
    gi_wp2
    go_ret
    have hb:Below W.heap.size W w3:=B2.out.trans (bg.mono B2.out.size)
    exact⟨Keeps.bI hb,.inl ⟨rfl,by simpa using gr.out _ _ _ sR.out (hb.mono Ot.out.size)⟩⟩
   ·refine wpIn_region_quiet_below rfl zk zk ?_
    repeat (quiet_step_in (first|exact cS _ _|exact cR _ _))
    refine wpQuietIn_nil ?_
    rintro w' ⟨⟨dq,osq⟩,rfl⟩
    have bg:=below_regrown w2 dq osq
    clear q0 q1 q2 q3 q4 r0 r1 r2 cS cR
    generalize grow (redrawn w2 dq) osq=w3 at bg⊢
    have H3:=hid (H2.out.below bg H2.out.lt)
    have hb:Below W.heap.size W w3:=B2.out.trans (bg.mono B2.out.size)
    have M3:=hid (HM.out.keeps (Keeps.bI hb))
    have J3:=gr.out _ _ _ sR.out (hb.mono Ot.out.size)
    have K3:=Ot.out.trans (Keeps.bI hb)
    have qa:Hid (Keeps C W w3):=hid (Keeps.bI hb)
    obtain⟨fn,tmps,as1,bd,hy,rh⟩:=HhY.out pre ⟨hf,hmm,lies⟩ w3 (by simpa using tf.out) J3 K3
    simp only[Ht.val,Ht.cells] at hy
    have c3:∀i,w3.cell? ⟨Bb,i,none⟩=(#[int i64 dY,int i64 mO,.slice gA ng gc,.slice mA nm mc,.slice cA nc cc]:Array Value)[i]?:=M3.out.wb.cell
    have y3:w3.cell? ⟨By,0,none⟩=some (.func (.yield l) #[] #[]):=M3.out.wy.cell 0
    have h3:=H3.out.cell
    have Mn:=hid rh
    clear bg hb H2 S2 B2 M2 FQ tf J3 K3 rh
    gi_wp2
    refine Mn.out.mono ?_
    rintro e W5 ⟨hk5,(⟨rfl,kk⟩|⟨rfl,hx5⟩)⟩
    ·gi_wp2
     go_ret
     exact⟨qa.out.trans hk5,.inl ⟨rfl,by simpa using kk⟩⟩
    ·gi_wp2
     go_ret
     exact⟨qa.out.trans hk5,.inr ⟨rfl,[⟨hf,hmm,lies⟩],zs,hx5⟩⟩
 | succ fuel ih=>
   intro k h s pre W hkn hM q7 hj hpre hs hl
   have Uk:=ok.moves.1
   have Wf:=ok.moves.2 k zo
   have hsz0:=q7.size
   have El:∀w,b.At w w.heap.size→CallsIn (FW p) 0 prog 107 #[b.val,int i64 k] w fun e w'=>e=.returned (.agg #[int i64 (gM b k),int i64 (gL b k)])∧Below w.heap.size w w':=fun w hA=>CallsIn.wide (Dp b k w hA zo ok.moves.1 (fun i hi=>by have:=(ok.moves.2 i hi).day;have:=ok.dY;omega))
   have Tq:∀w,b.At w w.heap.size→CallsIn (FW p) 0 prog 106 #[b.val,mD s,.agg #[int i64 (gM b k),int i64 (gL b k)]] w fun e w'=>e=.returned (.bool (iO b s (gM b k) (gL b k)))∧Below w.heap.size w w':=fun w hA=>CallsIn.wide (CP b s _ _ w hA ok.counts.1 (fun i hi=>by have:=(ok.counts.2 i hi).good;have:=ok.bX.1;omega))
   obtain⟨L1,hL1⟩:∃x,x=gM b k:=zE
   obtain⟨L2,hL2⟩:∃x,x=gL b k:=zE
   obtain⟨R,hR⟩:∃R,R=iO b s (gM b k) (gL b k):=zE
   have hfl:eu b (fuel+1) k h s=if R=true then(aX (b.m k).lo ((b.m k).hi - (b.m k).lo+1).toNat).flatMap fun x=>eu b fuel (k+1) (dU h k x) (Bh b s (dU h k x) k) else[]:=by rw[hR];rfl
   rw[← hL1,← hL2] at El Tq
   rw[← hL1,← hL2] at hR
   rw[← hR] at Tq
   rw[hfl] at hpre⊢
   have iv:∀x w,0≤x→x≤99→b.At w w.heap.size→CallsIn (FW p) 0 prog 88 #[b.val,mD s,(dU h k x).val,int i64 k] w fun e w'=>e=.returned (mD (Bh b s (dU h k x) k))∧Below w.heap.size w w':=fun x w hx1 hx2 hA=>CallsIn.wide (Go.Proofs.YtpmafoalhnaokaaGreat.W.wI b s (dU h k x) k w hA zo Wf ok.bX.1.2 zo hl (fun q hq=>by have:=hs q hq;omega) (by
    unfold Ht.real
    split
    ·omega
    ·simp[dU];omega))
   have hsA:∀x,0≤x→x≤99→∀q,q<3→-99 * ((k+1:Nat):Int)≤Bh b s (dU h k x) k q∧Bh b s (dU h k x) k q≤99 * (((k+1:Nat):Int)+1):=fun x hx1 hx2 q hq=>by
    have h1:=hs q hq
    have h2:0≤(dU h k x).real k∧(dU h k x).real k≤99:=by
     unfold Ht.real
     split
     ·omega
     ·simp[dU];omega
    unfold Bh qv
    push_cast
    split <;> (try split) <;> omega
   have Yj:=jc Wf.few
   obtain⟨AF,GP⟩:∃AF,AF=fun x=>Bh b s (dU h k x) k:=zE
   obtain⟨FL,GW⟩:∃FL,FL=fun x=>eu b fuel (k+1) (dU h k x) (AF x):=zE
   have xj:(fun x=>eu b fuel (k+1) (dU h k x) (Bh b s (dU h k x) k))=FL:=by rw[GW,GP]
   rw[xj] at hpre⊢
   have ihx:∀x pre W,0≤x→x≤99→FM b C N0 Bb By Bf l W→Keeps C W0 W→J pre W→(pre ++ FL x)<+:xs→CallsIn (FW p) 0 prog 105 #[(dU h k x).val,mD (AF x),int i64 ((k:Int)+1),.pointer (some ⟨Bb,0,none⟩),.pointer (some ⟨By,0,none⟩),.pointer (some ⟨Bf,0,none⟩)] W fun e W'=>Keeps C W W'∧((e=.returned (.bool true)∧J (pre ++ FL x) W')∨(e=.returned (.bool false)∧∃q,q<+:FL x∧Jx (pre ++ q) W')):=fun x pre W h1 h2 hM hK hj hp=>by
    have:=ih (k+1) (dU h k x) (AF x) pre W zo hM hK hj (by rw[GW] at hp;exact hp) (by rw[GP];exact hsA x h1 h2) hl
    rw[GW]
    exact_mod_cast this
   have tW:∀x w,0≤x→x≤99→b.At w w.heap.size→CallsIn (FW p) 0 prog 88 #[b.val,mD s,(dU h k x).val,int i64 k] w fun e w'=>e=.returned (mD (AF x))∧Below w.heap.size w w':=by rw[GP];exact iv
   have hbk:b.nm=k+(fuel+1):=hkn.symm
   have hM0:=hM
   clear ih iv hsA hfl xj GW GP hL1 hL2 hR hs Wf
   obtain⟨cnt,hcnt⟩:∃cnt,cnt=((b.m k).hi - (b.m k).lo+1).toNat:=zE
   rw[← hcnt] at hpre⊢
   obtain⟨dY,mO,gA,ng,gc,g,mA,nm,mc,m,cA,nc,cc,c⟩:=b
   obtain⟨lo,hlo⟩:∃lo,lo=(m k).lo:=zE
   obtain⟨hi,hhi⟩:∃hi,hi=(m k).hi:=zE
   simp only at Uk hbk Yj hcnt hpre
   rw[← hlo,← hhi] at Yj hcnt
   rw[← hlo] at hpre
   simp only
   rw[← hlo]
   have hc3:cnt≤3:=zo
   have HC:Hid ((cnt:Int)=hi - lo+1):=hid zo
   have HF:=hid Yj
   clear hcnt Yj
   have HKN:=hid hbk
   have HOK:=hid ok
   clear hkn ok
   have hdk:decide ((k:Int)=(nm:Int))=false:=decide_eq_false zo
   have aau:((k:Int) == (nm:Int))=false:=zm
   obtain⟨ad,hA',-,-⟩:=hM.at_.m (show 0<nm by omega)
   have hkl:k<nm:=zo
   clear hbk hsz0
   simp only at hA'
   subst hA'
   have row:∀w',Keeps C W w'→w'.cell? ⟨(ad.add (k * 5)).block,(ad.add (k * 5)).off+3,none⟩=some (int i64 lo)∧w'.cell? ⟨(ad.add (k * 5)).block,(ad.add (k * 5)).off+3+1,none⟩=some (int i64 hi):=fun w' hk=>by
    have hr:=(hM.keeps hk).at_.m.row hkl
    rw[hlo,hhi]
    exact⟨hr.2 3 zD,hr.2 4 zD⟩
   have Row:=hid row
   clear row hlo hhi
   obtain⟨hf,hmm,lies⟩:=h
   simp only[Bk.val,Bk.cells,mD] at El Tq
   have fS:=hid El
   have Mo:=hid Tq
   have J':=hid tW
   have HIh:=hid ihx
   have HM:=hid hM
   clear El Tq tW ihx hM0 hM
   have Ot:=hid q7
   have sR:=hid hj
   have tf:=hid hpre
   clear q7 hj hpre
   simp only[mD,Ht.val,Ht.cells]
   obtain⟨w2,hw2⟩:∃w2,w2=(W.alloc (.cells #[int i64 (hf 0),int i64 (hf 1),int i64 (hf 2),int i64 (hmm 0),int i64 (hmm 1),int i64 (hmm 2),int i64 (hmm 3),int i64 (hmm 4),int i64 (hmm 5),int i64 lies] 91)).alloc (.cells #[int i64 (s 0),int i64 (s 1),int i64 (s 2)] 88):=zE
   have H2:Hid (Whole w2 W.heap.size 91 #[int i64 (hf 0),int i64 (hf 1),int i64 (hf 2),int i64 (hmm 0),int i64 (hmm 1),int i64 (hmm 2),int i64 (hmm 3),int i64 (hmm 4),int i64 (hmm 5),int i64 lies]):=hid (by rw[hw2];exact(Whole.new _ _ _).alloc _)
   have S2:Hid (Whole w2 (W.heap.size+1) 88 #[int i64 (s 0),int i64 (s 1),int i64 (s 2)]):=hid (by
    have:=Whole.new (W.alloc (.cells #[int i64 (hf 0),int i64 (hf 1),int i64 (hf 2),int i64 (hmm 0),int i64 (hmm 1),int i64 (hmm 2),int i64 (hmm 3),int i64 (hmm 4),int i64 (hmm 5),int i64 lies] 91)) 88 #[int i64 (s 0),int i64 (s 1),int i64 (s 2)]
    rw[World.size_alloc] at this;rw[hw2];exact this)
   have B2:Hid (Below W.heap.size W w2):=hid (by rw[hw2];exact bw)
   have M2:=hid (HM.out.keeps (Keeps.bI B2.out))
   have FQ:=hid hw2
   clear hw2
   have q0:∀d os,(grow (redrawn w2 d) os).cell? ⟨Bb,0,none⟩=some (int i64 dY):=cell_regrown (M2.out.wb.cell 0)
   have q1:∀d os,(grow (redrawn w2 d) os).cell? ⟨Bb,1,none⟩=some (int i64 mO):=cell_regrown (M2.out.wb.cell 1)
   have q2:∀d os,(grow (redrawn w2 d) os).cell? ⟨Bb,2,none⟩=some (.slice gA ng gc):=cell_regrown (M2.out.wb.cell 2)
   have q3:∀d os,(grow (redrawn w2 d) os).cell? ⟨Bb,3,none⟩=some (.slice (some ad) nm mc):=cell_regrown (M2.out.wb.cell 3)
   have q4:∀d os,(grow (redrawn w2 d) os).cell? ⟨Bb,4,none⟩=some (.slice cA nc cc):=cell_regrown (M2.out.wb.cell 4)
   have r0:=cell_regrown (S2.out.cell 0)
   have r1:=cell_regrown (S2.out.cell 1)
   have r2:=cell_regrown (S2.out.cell 2)
   have cS:∀d os,CallsIn (FW p) 0 prog 107 #[.agg #[int i64 dY,int i64 mO,.slice gA ng gc,.slice (some ad) nm mc,.slice cA nc cc],int i64 k] (grow (redrawn w2 d) os) fun e w''=>e=.returned (.agg #[int i64 L1,int i64 L2])∧∃p:Regrown,w''=grow (redrawn w2 p.d) p.os:=fun d os=>CallsIn.regrown_of (fS.out _ (((M2.out.at_.more M2.out.n0).below (below_regrown w2 d os)).more (below_regrown w2 d os).size))
   have cR:∀d os,CallsIn (FW p) 0 prog 106 #[.agg #[int i64 dY,int i64 mO,.slice gA ng gc,.slice (some ad) nm mc,.slice cA nc cc],.agg #[int i64 (s 0),int i64 (s 1),int i64 (s 2)],.agg #[int i64 L1,int i64 L2]] (grow (redrawn w2 d) os) fun e w''=>e=.returned (.bool R)∧∃p:Regrown,w''=grow (redrawn w2 p.d) p.os:=fun d os=>CallsIn.regrown_of (Mo.out _ (((M2.out.at_.more M2.out.n0).below (below_regrown w2 d os)).more (below_regrown w2 d os).size))
   gi_enter func105,ntmps105
   gi_wp2
   rw[← FQ.out]
   cases R
   ·refine wpIn_region_quiet_below rfl zk zk ?_
    repeat (quiet_step_in (first|exact cS _ _|exact cR _ _))
    refine wpQuietIn_nil ?_
    rintro w' ⟨⟨dq,osq⟩,rfl⟩
    have bg:=below_regrown w2 dq osq
    clear q0 q1 q2 q3 q4 r0 r1 r2 cS cR
    generalize grow (redrawn w2 dq) osq=w3 at bg⊢
    gi_wp2
    go_ret
    have hb:Below W.heap.size W w3:=B2.out.trans (bg.mono B2.out.size)
    exact⟨Keeps.bI hb,.inl ⟨rfl,by simpa using gr.out _ _ _ sR.out (hb.mono Ot.out.size)⟩⟩
   ·refine wpIn_region_quiet_below rfl zk zk ?_
    repeat (quiet_step_in (first|exact cS _ _|exact cR _ _))
    refine wpQuietIn_nil ?_
    rintro w' ⟨⟨dq,osq⟩,rfl⟩
    have bg:=below_regrown w2 dq osq
    clear q0 q1 q2 q3 q4 r0 r1 r2 cS cR
    generalize grow (redrawn w2 dq) osq=w3 at bg⊢
    have H3:=hid (H2.out.below bg H2.out.lt)
    have S3:=hid (S2.out.below bg S2.out.lt)
    have hb:Below W.heap.size W w3:=B2.out.trans (bg.mono B2.out.size)
    have M3:=hid (HM.out.keeps (Keeps.bI hb))
    have J3:=hid (gr.out _ _ _ sR.out (hb.mono Ot.out.size))
    have K3:=hid (Ot.out.trans (Keeps.bI hb))
    have qa:Hid (Keeps C W w3):=hid (Keeps.bI hb)
    have hs3:=S3.out.lt
    have c3:∀i,w3.cell? ⟨Bb,i,none⟩=(#[int i64 dY,int i64 mO,.slice gA ng gc,.slice (some ad) nm mc,.slice cA nc cc]:Array Value)[i]?:=M3.out.wb.cell
    obtain⟨r3,r4⟩:=Row.out w3 qa.out
    have Mb:Hid (pre ++ (aX lo cnt).flatMap FL<+:xs):=hid (by simpa using tf.out)
    clear bg hb H2 S2 B2 M2 FQ tf
    gi_wp2
    have yi:∀x,W.heap.size≤x→¬ C x:=fun x hx hc=>by have:=HhC.out x hc;have:=Ot.out.size;omega
    have E3:=hid yi
    obtain⟨w4,hw4⟩:∃w4,w4=w3.alloc (.cells #[int i64 lo,int i64 hi] 28):=zE
    have P4:Hid (Whole w4 w3.heap.size 28 #[int i64 lo,int i64 hi]):=hid (by rw[hw4];exact Whole.new _ _ _)
    have H4:Hid (Whole w4 W.heap.size 91 (⟨hf,hmm,lies⟩:Ht).cells):=hid (by rw[hw4];exact H3.out.alloc _)
    have S4:Hid (Whole w4 (W.heap.size+1) 88 #[int i64 (s 0),int i64 (s 1),int i64 (s 2)]):=hid (by rw[hw4];exact S3.out.alloc _)
    have KW4:Hid (Keeps C W w4):=hid (by rw[hw4];exact qa.out.trans (Keeps.bI (zB.alloc zL _)))
    have J4:Hid (J pre w4):=hid (by rw[hw4];exact gr.out _ _ _ J3.out (zB.alloc K3.out.size _))
    have hs4:w3.heap.size<w4.heap.size:=P4.out.lt
    rw[← hw4]
    have hWs:W.heap.size+1<w3.heap.size:=hs3
    clear hw4 H3 S3 qa J3 K3 M3 c3 r3 r4 yi
    gi_loopw [11] (fun n wr=>∃i:Nat,i≤cnt∧n=int i64 (lo+i)∧∃hm:Nat→Int,Hid (Keeps (fun x=>C x∨x=W.heap.size) w4 wr∧Whole wr W.heap.size 91 (⟨hf,hm,lies⟩:Ht).cells∧(∀x,dU ⟨hf,hm,lies⟩ k x=dU ⟨hf,hmm,lies⟩ k x)∧J (pre ++ (aX lo i).flatMap FL) wr)) (fun n _=>(hi+1 - intOf n).toNat)
    case atStart=>exact⟨0,Nat.zero_le _,zs,hmm,hid ⟨Keeps.refl _ _,H4.out,fun _=>rfl,by simpa [aX] using J4.out⟩⟩
    case round=>
     obtain⟨i,hii,rfl,hm,hT⟩:=hrel
     clear J4 H4
     have hKr:Keeps C W wr:=KW4.out.then hT.out.1 fun x hx h=>h.elim id fun h=>zo
     have HKr:=hid hKr
     have Mr:=hid (HM.out.keeps hKr)
     have Sr:=hid (S4.out.keeps hT.out.1 (fun h=>h.elim (E3.out _ zo) (fun h=>zo)))
     have Pr:=hid (P4.out.keeps hT.out.1 (fun h=>h.elim (E3.out _ zo) (fun h=>zo)))
     have g1:wr.cell? ⟨w3.heap.size,1,none⟩=some (int i64 hi):=Pr.out.cell 1
     have hst:=hT.out.1.size
     clear hKr
     by_cases hic:i<cnt
     ·have hd:decide (lo+(i:Int)≤hi)=true:=decide_eq_true (by have:=HC.out;omega)
      have hk0:(0:Int)≤(k:Int):=zo
      have Uj:(k:Int)<6:=zo
      have x0:wr.cell? ⟨W.heap.size,3+k,none⟩=some (int i64 (hm k)):=(hT.out.2.1.cell _).trans (Tw zo)
      have xf:=hT.out.2.1.thaw
      have hWr:=hT.out.2.1.lt
      have hn0:0≤lo+(i:Int)∧lo+(i:Int)≤99:=by have:=HC.out;have:=HF.out;omega
      have HN0:=hid hn0
      have hnw:wrap64 (lo+(i:Int)+1)=lo+(i:Int)+1:=IntWalk.wrap64_in _ zo
      have s8:=hid hnw
      clear hn0
      obtain⟨nv,la⟩:∃nv,nv=lo+(i:Int):=zE
      have MF:=hid la
      rw[← la] at hd HN0 hnw⊢
      clear la
      gi_wp2
      obtain⟨hx,hhx⟩:∃hx,hx=dU ⟨hf,hmm,lies⟩ k nv:=zE
      obtain⟨sx,hsx⟩:∃sx,sx=AF nv:=zE
      have hx2:hx=(⟨hf,fun i=>if i=k then nv else hm i,lies⟩:Ht):=by rw[hhx,← hT.out.2.2.1 nv];rfl
      obtain⟨w7,hw7⟩:∃w7,w7=wr.setCell ⟨W.heap.size,3+k,none⟩ (int i64 nv):=zE
      have W7:Hid (Whole w7 W.heap.size 91 #[int i64 (hx.f 0),int i64 (hx.f 1),int i64 (hx.f 2),int i64 (hx.m 0),int i64 (hx.m 1),int i64 (hx.m 2),int i64 (hx.m 3),int i64 (hx.m 4),int i64 (hx.m 5),int i64 hx.lies]):=hid (by
       have:=hT.out.2.1.set (3+k) (int i64 nv)
       rw[OP zo,← hx2,← hw7] at this
       exact this)
      have K7:Hid (Keeps (fun x=>C x∨x=W.heap.size) wr w7):=hid (by rw[hw7];exact(Keeps.refl _ _).set (p:=⟨W.heap.size,3+k,none⟩) (.inr rfl) _)
      have No:Hid (Keeps C W w7):=hid (HKr.out.then K7.out fun x hx h=>h.elim id fun h=>zo)
      have M7:=hid (HM.out.keeps No.out)
      have S7:=hid (Sr.out.keeps K7.out (fun h=>h.elim (E3.out _ zo) (fun h=>zo)))
      have J7:Hid (J (pre ++ (aX lo i).flatMap FL) w7):=hid (by rw[hw7];exact gr.out _ _ _ hT.out.2.2.2 (zB.setCell (p:=⟨W.heap.size,3+k,none⟩) (by have:=Ot.out.size;exact this) _))
      have HX2:=hid hx2
      have Sw:=HN0.out
      have iv:=fun w=>J'.out nv w Sw.1 Sw.2
      have Ge:=fun pre W=>HIh.out nv pre W Sw.1 Sw.2
      rw[← hhx,← hsx] at iv Ge
      simp only[Bk.val,Bk.cells,Ht.val,Ht.cells,mD] at iv Ge
      have HcI:=hid Ge
      have cA':∀d os,CallsIn (FW p) 0 prog 88 #[.agg #[int i64 dY,int i64 mO,.slice gA ng gc,.slice (some ad) nm mc,.slice cA nc cc],.agg #[int i64 (s 0),int i64 (s 1),int i64 (s 2)],.agg #[int i64 (hx.f 0),int i64 (hx.f 1),int i64 (hx.f 2),int i64 (hx.m 0),int i64 (hx.m 1),int i64 (hx.m 2),int i64 (hx.m 3),int i64 (hx.m 4),int i64 (hx.m 5),int i64 hx.lies],int i64 k] (grow (redrawn w7 d) os) fun e w''=>e=.returned (.agg #[int i64 (sx 0),int i64 (sx 1),int i64 (sx 2)])∧∃p:Regrown,w''=grow (redrawn w7 p.d) p.os:=fun d os=>CallsIn.regrown_of (iv _ (((M7.out.at_.more M7.out.n0).below (below_regrown w7 d os)).more (below_regrown w7 d os).size))
      have ek:IntKind.i64.wrap ((k:Int)+1)=(k:Int)+1:=IntWalk.i64_in _ zo
      rw[← hw7]
      clear hw7 hx2 Sw iv Ge hhx hsx x0 xf g1 hnw
      have q0:∀d os,(grow (redrawn w7 d) os).cell? ⟨Bb,0,none⟩=some (int i64 dY):=cell_regrown (M7.out.wb.cell 0)
      have q1:∀d os,(grow (redrawn w7 d) os).cell? ⟨Bb,1,none⟩=some (int i64 mO):=cell_regrown (M7.out.wb.cell 1)
      have q2:∀d os,(grow (redrawn w7 d) os).cell? ⟨Bb,2,none⟩=some (.slice gA ng gc):=cell_regrown (M7.out.wb.cell 2)
      have q3:∀d os,(grow (redrawn w7 d) os).cell? ⟨Bb,3,none⟩=some (.slice (some ad) nm mc):=cell_regrown (M7.out.wb.cell 3)
      have q4:∀d os,(grow (redrawn w7 d) os).cell? ⟨Bb,4,none⟩=some (.slice cA nc cc):=cell_regrown (M7.out.wb.cell 4)
      have q5:∀d os,(grow (redrawn w7 d) os).cell? ⟨Bf,0,none⟩=some (.func (.func 105) #[] #[.pointer (some ⟨Bb,0,none⟩),.pointer (some ⟨By,0,none⟩),.pointer (some ⟨Bf,0,none⟩)]):=cell_regrown (M7.out.wf.cell 0)
      have r0:=cell_regrown (S7.out.cell 0)
      have r1:=cell_regrown (S7.out.cell 1)
      have r2:=cell_regrown (S7.out.cell 2)
      have y0:=cell_regrown (W7.out.cell 0)
      have y1:=cell_regrown (W7.out.cell 1)
      have y2:=cell_regrown (W7.out.cell 2)
      have y3:=cell_regrown (W7.out.cell 3)
      have y4:=cell_regrown (W7.out.cell 4)
      have y5:=cell_regrown (W7.out.cell 5)
      have y6:=cell_regrown (W7.out.cell 6)
      have y7:=cell_regrown (W7.out.cell 7)
      have y8:=cell_regrown (W7.out.cell 8)
      have y9:=cell_regrown (W7.out.cell 9)
      refine aJ 9 rfl zk zk ?_
      simp only[List.take_succ_cons,List.take_zero,List.drop_succ_cons,List.drop_zero]
      repeat (quiet_step_in (exact cA' _ _))
      refine wpQuietIn_nil ?_
      rintro w' ⟨⟨dq,osq⟩,rfl⟩
      have bg:=below_regrown w7 dq osq
      clear q0 q1 q2 q3 q4 q5 r0 r1 r2 y0 y1 y2 y3 y4 y5 y6 y7 y8 y9 cA' ek
      generalize grow (redrawn w7 dq) osq=w9 at bg⊢
      have K9:Hid (Keeps (fun x=>C x∨x=W.heap.size) wr w9):=hid (K7.out.trans (Keeps.bI bg))
      have Nx:Hid (Keeps C W w9):=hid (No.out.trans (Keeps.bI bg))
      have M9:=hid (HM.out.keeps Nx.out)
      have W9:=hid (W7.out.below bg W7.out.lt)
      have J9:=hid (gr.out _ _ _ J7.out (bg.mono (Nat.le_trans Ot.out.size No.out.size)))
      obtain⟨rest,hrest⟩:∃rest,rest=((aX lo cnt).drop (i+1)).flatMap FL:=zE
      have e:(aX lo cnt).flatMap FL=(aX lo i).flatMap FL ++ (FL nv ++ rest):=by
       rw[hrest]
       have h1:aX lo cnt=aX lo i ++ nv :: (aX lo cnt).drop (i+1):=by
        have h2:(aX lo cnt).take i=aX lo i:=by
         unfold aX
         rw[← List.map_take,List.take_range,Nat.min_eq_left zo]
        have h3:(aX lo cnt)[i]'(by simp[aX];exact hic)=nv:=by rw[MF.out];simp[aX]
        have h4:=List.take_append_drop i (aX lo cnt)
        rw[h2,List.drop_eq_getElem_cons (by simp[aX];exact hic),h3] at h4
        exact h4.symm
       rw[h1,List.flatMap_append,List.flatMap_cons]
       congr 2
       rw[← h1]
      have HE:=hid e
      have hpx:(pre ++ (aX lo i).flatMap FL) ++ FL nv<+:xs:=by
       have h:=Mb.out
       rw[e] at h
       exact List.IsPrefix.trans ⟨rest,zs⟩ h
      have cd:=hid hpx
      clear bg hpx e hrest
      gi_wp2_with (gi_at_call 105;refine(HcI.out (pre ++ (aX lo i).flatMap FL) w9 M9.out (Ot.out.trans Nx.out) J9.out cd.out).mono ?_;rintro e W5 ⟨hk5,(⟨rfl,kk⟩|⟨rfl,q,hq,hx5⟩)⟩)
      ·refine⟨⟨i+1,zo,by rw[MF.out,s8.out];congr 1;push_cast;omega,fun i=>if i=k then nv else hm i,hid ⟨hT.out.1.trans (K9.out.trans (hk5.more fun b _ h=>.inl h)),?_,fun x=>?_,?_⟩⟩,?_⟩
       ·have:=W9.out.keeps hk5 (E3.out _ zL)
        rw[← HX2.out]
        exact this
       ·rw[← hT.out.2.2.1 x]
        unfold dU
        simp only
        congr 1
        funext y
        split <;> rfl
       ·rw[mY,List.flatMap_append,← List.append_assoc,← MF.out]
        simpa using kk
       ·have h1:=s8.out
        have h2:=MF.out
        have h3:=HC.out
        rw[h2,h1]
        simp only[intOf]
        omega
      ·go_ret
       refine⟨Nx.out.trans hk5,.inr ⟨rfl,(aX lo i).flatMap FL ++ q,?_,by rw[← List.append_assoc];exact hx5⟩⟩
       rw[HE.out]
       obtain⟨r,hr⟩:=hq
       exact⟨r ++ rest,by rw[← hr];simp⟩
     ·obtain rfl:i=cnt:=zo
      have hd:decide (lo+(i:Int)≤hi)=false:=decide_eq_false (by have:=HC.out;omega)
      gi_wp2
      go_ret
      exact⟨HKr.out,.inl ⟨rfl,hT.out.2.2.2⟩⟩
end
end Go.Proofs.YtpmafoalhnaokaaGreat
