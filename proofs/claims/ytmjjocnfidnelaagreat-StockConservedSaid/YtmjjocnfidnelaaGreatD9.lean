/- LE LV OP -/
import Derived.Test.YtmjjocnfidnelaaGreatD8
import Derived.Carry
import Derived.SizedLaws
import Derived.WideShapes
import Derived.ChangeShapes
import Derived.ChangeSlices
set_option maxRecDepth 100000
set_option maxHeartbeats 16000000
set_option linter.unusedVariables false
set_option linter.unusedSectionVars false
set_option linter.unusedSimpArgs false
open Go.IntKind(i64)
open Go.Lib(hid)
open Go.Proofs.Tryz
open Go.Value(int)
namespace Go.Proofs.YtmjjocnfidnelaaGreat
section
open Go Go.Conc Go.ConcN Go.cZ Go.Conc.Lib Go.aQ Go.RowKit
attribute [local go_sem] Oper.semAt_some
variable[Inhabited aZ]
theorem WI{w:World}{p:Addr}{v:Value}(h:w.cell? p=some v):p.block<w.heap.size:=by
 rcases Nat.lt_or_ge p.block w.heap.size with hl|hl
 ·exact hl
 ·unfold World.cell? at h
  rw[Array.getElem?_eq_none hl] at h
  cases h
theorem Kh(w0:World)(a:Act)(w:World)(ng G:Nat)(left low first:Nat→Int)(B1 B2 E1 E2 F1:Option Addr)(r1 r2 t1 t2 p1 nf Pb:Nat)(h:ZB a w ng G left low first B1 B2 E1 E2 F1 r1 r2 t1 t2 p1 nf Pb)(hb:Below w0.heap.size w0 w):ak Tryz.f3 (qC w0) [Kg] a w:=by
 obtain⟨T,ds⟩:=a
 obtain⟨hG,ng3,hsz,hd,k10,k11,k20,k21,k22,k13,k14,k9,iW,hnf,wC,xQ,Gt,J8,Ef,AK,AM⟩:=h
 simp only at hsz hd k10 k11 k20 k21 k22 k13 k14 k9
 subst hd
 have hT:=IJ T hsz
 obtain⟨f,hf⟩:∃f:Nat→Value,f=fun i=>T.getD i undef:=⟨_,rfl⟩
 have Ax:T=#[f 0,f 1,f 2,f 3,f 4,f 5,f 6,f 7,f 8,f 9,f 10,f 11,f 12,f 13,f 14,f 15,f 16,f 17,f 18,f 19,f 20,f 21,f 22,f 23,f 24,f 25,f 26,f 27,f 28,f 29,f 30,f 31,f 32,f 33,f 34,f 35,f 36,f 37,f 38,f 39,f 40,f 41,f 42,f 43,f 44,f 45,f 46,f 47,f 48,f 49,f 50,f 51,f 52,f 53,f 54,f 55,f 56,f 57,f 58,f 59,f 60,f 61,f 62,f 63,f 64,f 65,f 66,f 67,f 68,f 69,f 70,f 71,f 72,f 73,f 74,f 75,f 76,f 77,f 78,f 79,f 80,f 81,f 82,f 83,f 84,f 85,f 86,f 87,f 88,f 89,f 90,f 91,f 92,f 93,f 94,f 95,f 96,f 97,f 98,f 99,f 100,f 101,f 102,f 103,f 104,f 105,f 106,f 107,f 108,f 109,f 110,f 111,f 112,f 113,f 114,f 115,f 116,f 117,f 118,f 119,f 120,f 121,f 122,f 123,f 124,f 125,f 126,f 127,f 128,f 129,f 130,f 131,f 132,f 133,f 134,f 135,f 136,f 137,f 138,f 139,f 140,f 141,f 142,f 143,f 144,f 145,f 146,f 147,f 148,f 149,f 150,f 151,f 152,f 153,f 154,f 155,f 156,f 157,f 158,f 159,f 160,f 161,f 162,f 163,f 164,f 165,f 166,f 167,f 168,f 169,f 170,f 171,f 172,f 173,f 174,f 175,f 176,f 177,f 178,f 179,f 180,f 181,f 182,f 183,f 184,f 185,f 186,f 187,f 188,f 189,f 190,f 191,f 192,f 193,f 194,f 195,f 196,f 197,f 198,f 199,f 200,f 201]:=by rw[hf];exact hT
 obtain⟨vl,hvl⟩:∃v,v=left G:=⟨_,rfl⟩
 rw[← hvl] at k14 AK
 have e9:f 9=.pointer (some ⟨Pb,0,none⟩):=by rw[hf];exact k9
 have e10:f 10=.slice B1 ng r1:=by rw[hf];exact k10
 have e11:f 11=.slice B2 ng r2:=by rw[hf];exact k11
 have e13:f 13=int i64 G:=by rw[hf];exact k13
 have e14:f 14=int i64 vl:=by rw[hf];exact k14
 have e20:f 20=.slice E1 ng t1:=by rw[hf];exact k20
 have e21:f 21=.slice E2 ng t2:=by rw[hf];exact k21
 have e22:f 22=int i64 0:=by rw[hf];exact k22
 rw[e9,e10,e11,e13,e14,e20,e21,e22] at Ax
 subst Ax
 clear hf hT hsz k9 k10 k11 k13 k14 k20 k21 k22 e9 e10 e11 e13 e14 e20 e21 e22
 obtain⟨dE,rfl,l1,-⟩:=xQ zo
 obtain⟨ee,rfl,l2,-⟩:=Gt zo
 obtain⟨VS,rfl,lF,-⟩:=wC zo
 have c1:=Ints.at_ xQ hG
 have c2:=Ints.at_ Gt hG
 have cF:=Ints.at_ wC hnf
 rw[← hvl] at c1
 obtain⟨vw,hvw⟩:∃v,v=low G:=⟨_,rfl⟩
 obtain⟨vf,hvf⟩:∃v,v=first G:=⟨_,rfl⟩
 rw[← hvw] at c2 AK AM
 rw[← hvf] at cF AM
 have tf:ng≤maxLen:=zu
 have HI:=hid (And.intro xQ (And.intro Gt (And.intro J8 Ef)))
 have HB:=hid hb
 clear wC xQ Gt J8 Ef hvl hvw hvf hb
 have d1:decide (vw≤vl)=true:=decide_eq_true AK
 have d2:decide (vw≤vf)=true:=decide_eq_true AM
 have hG':(G:Int)<(ng:Int):=zo
 have hGf:(G:Int)<(nf:Int):=zo
 have hG0:(0:Int)≤(G:Int):=zo
 obtain⟨S,hSd⟩:∃S:World→Prop,S=fun w'=>w'.cell? (dE.add G)=some (int i64 vl)∧w'.cell? (ee.add G)=some (int i64 vw)∧w'.cell? (VS.add G)=some (int i64 vf)∧w'.cell? ⟨Pb,0,none⟩=some (.slice (some VS) nf p1):=⟨_,rfl⟩
 have hS0:S w.drew:=by rw[hSd];exact⟨c1,c2,cF,iW⟩
 have fE:Hid (∀w',Below w.heap.size w.drew w'→S w'):=hid fun w' hb=>by
  rw[hSd]
  refine⟨(hb.cell ?_).trans c1,(hb.cell ?_).trans c2,(hb.cell ?_).trans cF,(hb.cell ?_).trans iW⟩
  ·rw[aD];exact l1
  ·rw[aD];exact l2
  ·rw[aD];exact lF
  ·exact WI iW
 have HB0:Hid (Below w.heap.size w w.drew):=hid (dH (Below.refl _ _))
 clear iW c1 c2 cF
 simp only[Kg,Tryz.f3,Option.getD_some,lastOf]
 repeat refine ak.seq ?_
 refine ak.H6 43 S zD rfl ?_
 obtain⟨wd,hwd⟩:∃wd,wd=w.drew:=⟨_,rfl⟩
 rw[← hwd] at hS0 fE HB0⊢
 clear hwd
 subst hSd
 refine nH (i:=0) (some 157) hS0 ?_
 simp only[Act.put,List.setIfInBounds_toArray,List.set]
 refine nH (i:=1) (some 158) hS0 ?_
 simp only[Act.put,List.setIfInBounds_toArray,List.set]
 refine nH (i:=2) (some 159) hS0 ?_
 simp only[Act.put,List.setIfInBounds_toArray,List.set]
 refine nH (i:=3) (some 160) hS0 ?_
 simp only[Act.put,List.setIfInBounds_toArray,List.set]
 refine nH (i:=4) (some 161) hS0 ?_
 simp only[Act.put,List.setIfInBounds_toArray,List.set]
 refine nH (i:=5) (some 162) hS0 ?_
 simp only[Act.put,List.setIfInBounds_toArray,List.set]
 refine nH (i:=6) (some 163) hS0 ?_
 simp only[Act.put,List.setIfInBounds_toArray,List.set]
 refine nH (i:=7) (some 164) hS0 ?_
 simp only[Act.put,List.setIfInBounds_toArray,List.set]
 refine nH (i:=8) (some 165) hS0 ?_
 simp only[Act.put,List.setIfInBounds_toArray,List.set]
 refine nH (i:=9) (some 166) hS0 ?_
 simp only[Act.put,List.setIfInBounds_toArray,List.set]
 refine nH (i:=10) (some 167) hS0 ?_
 simp only[Act.put,List.setIfInBounds_toArray,List.set]
 refine nH (i:=11) (some 168) hS0 ?_
 simp only[Act.put,List.setIfInBounds_toArray,List.set]
 refine nH (i:=12) (some 169) hS0 ?_
 simp only[Act.put,List.setIfInBounds_toArray,List.set]
 refine nH (i:=13) (some 170) hS0 ?_
 simp only[Act.put,List.setIfInBounds_toArray,List.set]
 refine nH (i:=14) (some 171) hS0 ?_
 simp only[Act.put,List.setIfInBounds_toArray,List.set]
 refine nH (i:=15) (some 172) hS0 ?_
 simp only[Act.put,List.setIfInBounds_toArray,List.set]
 refine nH (i:=16) (some 173) hS0 ?_
 simp only[Act.put,List.setIfInBounds_toArray,List.set]
 refine nH (i:=17) (some 174) hS0 ?_
 simp only[Act.put,List.setIfInBounds_toArray,List.set]
 refine nH (i:=18) (some 175) hS0 ?_
 simp only[Act.put,List.setIfInBounds_toArray,List.set]
 refine nH (i:=19) (some 176) hS0 ?_
 simp only[Act.put,List.setIfInBounds_toArray,List.set]
 refine nH (i:=20) (some 177) hS0 ?_
 simp only[Act.put,List.setIfInBounds_toArray,List.set]
 refine nH (i:=21) (some 178) hS0 ?_
 simp only[Act.put,List.setIfInBounds_toArray,List.set]
 refine nH (i:=22) (some 179) hS0 ?_
 simp only[Act.put,List.setIfInBounds_toArray,List.set]
 refine nH (i:=23) (some 180) hS0 ?_
 simp only[Act.put,List.setIfInBounds_toArray,List.set]
 refine nH (i:=24) (some 181) hS0 ?_
 simp only[Act.put,List.setIfInBounds_toArray,List.set]
 refine nH (i:=25) (some 182) hS0 ?_
 simp only[Act.put,List.setIfInBounds_toArray,List.set]
 refine nH (i:=26) (some 183) hS0 ?_
 simp only[Act.put,List.setIfInBounds_toArray,List.set]
 refine nH (i:=27) (some 184) hS0 ?_
 simp only[Act.put,List.setIfInBounds_toArray,List.set]
 refine nH (i:=28) (some 185) hS0 ?_
 simp only[Act.put,List.setIfInBounds_toArray,List.set]
 refine nH (i:=29) (some 186) hS0 ?_
 simp only[Act.put,List.setIfInBounds_toArray,List.set]
 refine nH (i:=30) (some 187) hS0 ?_
 simp only[Act.put,List.setIfInBounds_toArray,List.set]
 refine nH (i:=31) (some 188) hS0 ?_
 simp only[Act.put,List.setIfInBounds_toArray,List.set]
 refine nH (i:=32) (some 189) hS0 ?_
 simp only[Act.put,List.setIfInBounds_toArray,List.set]
 refine nH (i:=33) (some 190) hS0 ?_
 simp only[Act.put,List.setIfInBounds_toArray,List.set]
 refine nH (i:=34) (some 191) hS0 ?_
 simp only[Act.put,List.setIfInBounds_toArray,List.set]
 refine nH (i:=35) (some 192) hS0 ?_
 simp only[Act.put,List.setIfInBounds_toArray,List.set]
 refine nH (i:=37) (some 194) hS0 ?_
 simp only[Act.put,List.setIfInBounds_toArray,List.set]
 refine nH (i:=38) (some 195) hS0 ?_
 simp only[Act.put,List.setIfInBounds_toArray,List.set]
 refine Lx (i:=36) (i':=39) zk rfl rfl (fun K hK=>?_) (fun K hK=>?_)
 ·skip
  go_simp
  obtain⟨wx,hwx⟩:∃x,x=wd.alloc (.cells #[.slice (some dE) ng r1,.slice (some ee) ng r2] 30):=⟨_,rfl⟩
  have bx:Below w.heap.size wd wx:=by rw[hwx];exact(Below.refl _ wd).alloc HB0.out.size _
  have n4:=hid bx
  have EV:=hid hwx
  have hsx:wx.heap.size=wd.heap.size+1:=by rw[hwx];simp
  have HSx:=hid hsx
  rw[← hwx]
  refine hK.out _ _ (fE.out _ bx) ?_
  clear hK K hwx bx hsx
  refine G5 39 fun K hK=>?_
  go_simp
  obtain⟨wy,Tt⟩:∃x,x=wx.alloc (.cells #[.slice E1 ng t1,.slice E2 ng t2] 30):=⟨_,rfl⟩
  have WG:Below w.heap.size wd wy:=by rw[Tt];exact n4.out.alloc (Nat.le_trans HB0.out.size n4.out.size) _
  have ra:Whole wy wd.heap.size 30 #[.slice (some dE) ng r1,.slice (some ee) ng r2]:=by rw[Tt,EV.out];exact(Whole.new wd _ _).alloc _
  have rb:Whole wy wx.heap.size 30 #[.slice E1 ng t1,.slice E2 ng t2]:=by rw[Tt];exact Whole.new _ _ _
  rw[← Tt]
  refine hK.out _ _ (fE.out _ WG) ?_
  clear hK K Tt
  have hl1:Lists wy wy.heap.size (some ⟨wd.heap.size,0,none⟩) 2 (fun i=>[some dE,some ee].getD i none) (fun _=>ng) (fun i=>[r1,r2].getD i 0):=aR ra fun i j hi hj=>by
   obtain rfl:j=0:=zo
   rcases(show i=0∨i=1 by omega) with rfl|rfl <;> rfl
  have hl2:Lists wy wy.heap.size (some ⟨wx.heap.size,0,none⟩) 2 (fun i=>[E1,E2].getD i none) (fun _=>ng) (fun i=>[t1,t2].getD i 0):=aR rb fun i j hi hj=>by
   obtain rfl:j=0:=zo
   rcases(show i=0∨i=1 by omega) with rfl|rfl <;> rfl
  have kY:Below w.heap.size w wy:=HB0.out.trans WG
  have uS:=uy (some ⟨wd.heap.size,0,none⟩) (some ⟨wx.heap.size,0,none⟩) 2 2 2 _ _ _ _ _ (fun i j=>[left,low].getD i left j) wy.heap.size wy hl1 hl2 zD (fun i hi=>by
   rcases(show i=0∨i=1 by omega) with rfl|rfl
   ·exact(HI.out.1.below kY).more kY.size
   ·exact(HI.out.2.1.below kY).more kY.size) (fun i hi=>by
   rcases(show i=0∨i=1 by omega) with rfl|rfl
   ·exact(HI.out.2.2.1.below kY).more kY.size
   ·exact(HI.out.2.2.2.below kY).more kY.size) (fun i hi=>tf)
  have HSame:=hid uS
  have E0:=hid kY
  have n8:=hid WG
  clear uS hl1 hl2 ra rb kY WG
  refine G5 40 fun K hK=>?_
  go_simp
  refine HSame.out.mono ?_
  rintro e wz ⟨rfl,q,hq⟩
  have bz:Below wy.heap.size wy wz:=by rw[hq];exact below_drewN (Below.refl _ _) q
  have hSz:=fE.out wz (n8.out.trans (bz.mono (Nat.le_trans HB0.out.size n8.out.size)))
  have E3:=hid (Below.next E0.out bz)
  clear hq bz
  refine hK.out _ _ hSz ?_
  clear hK K
  refine G5 41 fun K hK=>?_
  go_simp
  refine hK.out _ _ hSz ?_
  clear hK K
  refine G5 42 fun K hK=>?_
  go_simp
  refine hK.out _ _ hSz ?_
  clear hK K
  refine vK zk ?_
  have HV:=hid (om wz)
  refine jr rfl rfl rfl (enters_of func5 zk rfl) (Rc:=qC wz) (args:=#[]) (by simp only[List.map_toArray,List.map_cons,List.map_nil]) HV.out ?_
  rintro x w2 ⟨rfl,hp⟩
  simp only[List.drop_succ_cons,List.drop_zero,Act.put,List.setIfInBounds_toArray,List.set_cons_succ,List.set_cons_zero]
  gi_wp2
  simp only[Ap]
  gi_wp2
  exact⟨rfl,_,results_tmp rfl _ _ _,_,rfl,rfl,Past.of (HB.out.trans (E3.out.mono HB.out.size)) hp⟩
 ·skip
  go_simp
  obtain⟨wx,hwx⟩:∃x,x=wd.alloc (.cells #[.slice E1 ng t1,.slice E2 ng t2] 30):=⟨_,rfl⟩
  have bx:Below w.heap.size wd wx:=by rw[hwx];exact(Below.refl _ wd).alloc HB0.out.size _
  have n4:=hid bx
  have EV:=hid hwx
  have hsx:wx.heap.size=wd.heap.size+1:=by rw[hwx];simp
  have HSx:=hid hsx
  rw[← hwx]
  refine hK.out _ _ (fE.out _ bx) ?_
  clear hK K hwx bx hsx
  refine G5 36 fun K hK=>?_
  go_simp
  obtain⟨wy,Tt⟩:∃x,x=wx.alloc (.cells #[.slice (some dE) ng r1,.slice (some ee) ng r2] 30):=⟨_,rfl⟩
  have WG:Below w.heap.size wd wy:=by rw[Tt];exact n4.out.alloc (Nat.le_trans HB0.out.size n4.out.size) _
  have ra:Whole wy wd.heap.size 30 #[.slice E1 ng t1,.slice E2 ng t2]:=by rw[Tt,EV.out];exact(Whole.new wd _ _).alloc _
  have rb:Whole wy wx.heap.size 30 #[.slice (some dE) ng r1,.slice (some ee) ng r2]:=by rw[Tt];exact Whole.new _ _ _
  rw[← Tt]
  refine hK.out _ _ (fE.out _ WG) ?_
  clear hK K Tt
  have hl1:Lists wy wy.heap.size (some ⟨wx.heap.size,0,none⟩) 2 (fun i=>[some dE,some ee].getD i none) (fun _=>ng) (fun i=>[r1,r2].getD i 0):=aR rb fun i j hi hj=>by
   obtain rfl:j=0:=zo
   rcases(show i=0∨i=1 by omega) with rfl|rfl <;> rfl
  have hl2:Lists wy wy.heap.size (some ⟨wd.heap.size,0,none⟩) 2 (fun i=>[E1,E2].getD i none) (fun _=>ng) (fun i=>[t1,t2].getD i 0):=aR ra fun i j hi hj=>by
   obtain rfl:j=0:=zo
   rcases(show i=0∨i=1 by omega) with rfl|rfl <;> rfl
  have kY:Below w.heap.size w wy:=HB0.out.trans WG
  have uS:=uy (some ⟨wx.heap.size,0,none⟩) (some ⟨wd.heap.size,0,none⟩) 2 2 2 _ _ _ _ _ (fun i j=>[left,low].getD i left j) wy.heap.size wy hl1 hl2 zD (fun i hi=>by
   rcases(show i=0∨i=1 by omega) with rfl|rfl
   ·exact(HI.out.1.below kY).more kY.size
   ·exact(HI.out.2.1.below kY).more kY.size) (fun i hi=>by
   rcases(show i=0∨i=1 by omega) with rfl|rfl
   ·exact(HI.out.2.2.1.below kY).more kY.size
   ·exact(HI.out.2.2.2.below kY).more kY.size) (fun i hi=>tf)
  have HSame:=hid uS
  have E0:=hid kY
  have n8:=hid WG
  clear uS hl1 hl2 ra rb kY WG
  refine G5 40 fun K hK=>?_
  go_simp
  refine HSame.out.mono ?_
  rintro e wz ⟨rfl,q,hq⟩
  have bz:Below wy.heap.size wy wz:=by rw[hq];exact below_drewN (Below.refl _ _) q
  have hSz:=fE.out wz (n8.out.trans (bz.mono (Nat.le_trans HB0.out.size n8.out.size)))
  have E3:=hid (Below.next E0.out bz)
  clear hq bz
  refine hK.out _ _ hSz ?_
  clear hK K
  refine G5 41 fun K hK=>?_
  go_simp
  refine hK.out _ _ hSz ?_
  clear hK K
  refine G5 42 fun K hK=>?_
  go_simp
  refine hK.out _ _ hSz ?_
  clear hK K
  refine vK zk ?_
  have HV:=hid (om wz)
  refine jr rfl rfl rfl (enters_of func5 zk rfl) (Rc:=qC wz) (args:=#[]) (by simp only[List.map_toArray,List.map_cons,List.map_nil]) HV.out ?_
  rintro x w2 ⟨rfl,hp⟩
  simp only[List.drop_succ_cons,List.drop_zero,Act.put,List.setIfInBounds_toArray,List.set_cons_succ,List.set_cons_zero]
  gi_wp2
  simp only[Ap]
  gi_wp2
  exact⟨rfl,_,results_tmp rfl _ _ _,_,rfl,rfl,Past.of (HB.out.trans (E3.out.mono HB.out.size)) hp⟩
end
section
open Go Go.Conc Go.ConcN Go.cZ Go.Conc.Lib Go.aQ
variable[Inhabited aZ]
theorem ak.mono{fn:Func}{R R':Value→World→Prop}{l:List Code}{a:Act}{w:World}(h:ak fn R l a w)(hr:∀v w',R v w'→R' v w'):ak fn R' l a w:=fun b cs h1 h2 h3 h4=>
 (h b cs h1 h2 h3 h4).on_ fun m' ⟨v,w',fr,k1,k2⟩=>⟨m',.refl _,v,w',fr,hr _ _ k1,k2⟩
theorem XE(w:World)(b:Bk)(h:b.At w w.heap.size)(hgc:b.ng≤b.gc)(hd:-9223372036854775808≤b.days∧b.days≤9223372036854775807)
 (pA:Option Addr)(np pc:Nat)(ps:Nat→Int)(hp:wP w w.heap.size pA np ps)(hnp:np≤maxLen)(bits good:Int)(hg:0≤good∧good≤255):
 iR 3 #[b.val,.slice pA np pc,.int .u8 bits,.int .u8 good] w (qC w):=by
 obtain⟨days,most,gA,ng,gc,g,mA,nm,mc,m,cA,nc,cc,c⟩:=b
 obtain⟨body,hb,hr⟩:=TI Uj w h hgc hd pA np pc ps hp hnp bits good hg
 refine kH func3 hb zs ?_
 refine ak.runs hr ?_
 rintro l a w' ⟨hbl,⟨⟨r,rfl⟩,h1,h2⟩|⟨rfl,G,left,low,first,B1,B2,E1,E2,F1,r1,r2,t1,t2,p1,nf,P,Q,he⟩⟩
 ·exact(OM r a w' h1 h2).mono fun v w2 ⟨e,k⟩=>⟨e,Past.of hbl k⟩
 ·exact Kh w a w' _ _ _ _ _ _ _ _ _ _ _ _ _ _ _ _ _ he hbl
def Dy(W:World)(x:Value)(u:World):Prop:=x=.bool true∧u.os=W.os∧u.output=W.output∧W.heap.size≤u.heap.size∧∀q,q<W.heap.size→u.heap[q]? =W.heap[q]?
theorem Rows.lift{W W0:World}(hc:∀p x,W.cell? p=some x→W0.cell? p=some x){B size n:Nat}{A:Option Addr}{f:Nat→Nat→Value}(h:Rows W B size A n f):Rows W0 B size A n f:=fun hn=>by
 obtain⟨ad,e,hb,k⟩:=h hn
 exact⟨ad,e,hb,fun i j hi hj=>hc _ _ (k i j hi hj)⟩
theorem Yg(n:Nat):SF.room n:=fun d h=>by cases h
def Odd(W:World)(q:Nat):Prop:=∃o,W.heap[q]? =some o∧¬ dU.Plain ⟨fun _=>False,vS⟩ o
open Classical in
noncomputable def bare(Z:Nat→Prop)(W:World):World:={W with heap:=W.heap.mapIdx fun q o=>if Z q then dU.X0 q else o }
theorem NH(Z:Nat→Prop)(W:World):(bare Z W).heap.size=W.heap.size:=by show(W.heap.mapIdx _).size=_;simp
theorem Ww{Z:Nat→Prop}{W:World}{q:Nat}(hq:¬ Z q):(bare Z W).heap[q]? =W.heap[q]?:=by
 simp only[bare,Array.getElem?_mapIdx]
 cases W.heap[q]? <;> simp[hq]
theorem RG{Z:Nat→Prop}{W:World}{q:Nat}{o:Obj}(hq:Z q)(ho:W.heap[q]? =some o):(bare Z W).heap[q]? =some (dU.X0 q):=by
 simp only[bare,Array.getElem?_mapIdx,ho]
 simp[hq]
theorem TH(hSF:gK prog SF.fn)(W:World)(b:Bk)(h:b.At W W.heap.size)(hgc:b.ng≤b.gc)(hd:-9223372036854775808≤b.days∧b.days≤9223372036854775807)
 (pA:Option Addr)(np pc:Nat)(ps:Nat→Int)(hp:wP W W.heap.size pA np ps)(hnp:np≤maxLen)(bits good:Int)(hg:0≤good∧good≤255):
 ∃M last o w' t',runNT prog (M+1) (solo (G (Frame.enter prog 3 #[b.val,.slice pA np pc,.int .u8 bits,.int .u8 good] .normal) []) W) #[]=(.ended o w',t')∧
  runN prog M (solo (G (Frame.enter prog 3 #[b.val,.slice pA np pc,.int .u8 bits,.int .u8 good] .normal) []) W)=.next last∧step prog last=.ended o w'∧Conc.Good prog (Dy W) last o w' t':=by
 obtain⟨Z0,hZ0⟩:∃Z:Nat→Prop,Z=Odd W:=⟨_,rfl⟩
 have hz:∀ {q},Z0 q↔∃o,W.heap[q]? =some o∧¬ dU.Plain ⟨fun _=>False,vS⟩ o:=fun{q}=>by rw[hZ0];exact Iff.rfl
 have hs0:(bare Z0 W).heap.size=W.heap.size:=NH Z0 W
 have hin:∀q,¬ Z0 q→(bare Z0 W).heap[q]? =W.heap[q]?:=fun q hq=>Ww hq
 have hout:∀q,Z0 q→(bare Z0 W).heap[q]? =some (dU.X0 q):=fun q hq=>by
  obtain⟨o,ho,_⟩:=hz.1 hq
  exact RG hq ho
 have hos:(bare Z0 W).os=W.os∧(bare Z0 W).output=W.output∧(bare Z0 W).drawn=W.drawn∧(bare Z0 W).tape=W.tape:=⟨rfl,rfl,rfl,rfl⟩
 clear hZ0
 obtain⟨W0,hW0⟩:∃w,w=bare Z0 W:=⟨_,rfl⟩
 rw[← hW0] at hs0 hin hout hos
 clear hW0
 have hcell:∀p x,W.cell? p=some x→W0.cell? p=some x:=fun p x hx=>by
  have hnz:¬ Z0 p.block:=by
   intro hzz
   obtain⟨o,ho,hno⟩:=hz.1 hzz
   unfold World.cell? at hx
   rw[ho] at hx
   cases o <;> first|exact hno trivial|cases hx
  rw[← hx]
  simp only[World.cell?,hin _ hnz]
 have hb0:b.At W0 W0.heap.size:=by
  rw[hs0]
  exact⟨h.g.lift hcell,h.m.lift hcell,h.c.lift hcell,h.ng,h.nm,h.nc,h.name⟩
 have hp0:wP W0 W0.heap.size pA np ps:=by
  rw[hs0]
  exact⟨hp.1.lift hcell,hp.2⟩
 obtain⟨hF,L5⟩:=XE W0 b hb0 hgc hd pA np pc ps hp0 hnp bits good hg
 obtain⟨n,cb,cs,w1,bit,Tq,⟨hn,D,hcl,hcb,m,hcall⟩,hback⟩:=L5 []
 have ok:(⟨Frame.enter prog 3 #[b.val,.slice pA np pc,.int .u8 bits,.int .u8 good] .normal,[],W0⟩:dU.Pt).Ok prog FF.fn ⟨Z0,vS⟩:=by
  refine⟨dU.Fr.enter L8 hF _,fun c hc=>by simp at hc,⟨fun q hq=>hout q hq,fun q o hq ho=>?_⟩⟩
  rw[show(⟨Frame.enter prog 3 #[b.val,.slice pA np pc,.int .u8 bits,.int .u8 good] .normal,[],W0⟩:dU.Pt).w=W0 from rfl,hin q hq] at ho
  have h1:dU.Plain ⟨fun _=>False,vS⟩ o:=Classical.byContradiction fun hno=>hq (hz.2 ⟨o,ho,hno⟩)
  cases o <;> exact h1
 have hva:dU.Fp ⟨Z0,vS⟩ (fun q=>W.heap[q]?) W0 W:=⟨⟨hs0.symm,fun q hq=>(hin q hq).symm,hos.1.symm,hos.2.1.symm,fun q o _ hk _=>hk⟩,hos.2.2.1.symm,hos.2.2.2.symm⟩
 have hcells:∀q o,Z0 q→W.heap[q]? =some o→∀c t f,o≠.cells c t f:=by
  rintro q o hzz ho c t f rfl
  obtain⟨o',ho',hno⟩:=hz.1 hzz
  rw[ho] at ho'
  cases ho'
  exact hno trivial
 obtain⟨_,_,_,_,_,_,_,hsz⟩:=dU.Co (D8 _) rU (fun _ h=>h) Tq (a:=⟨_,[],W0⟩) (b:=⟨kQ n cb,cs,w1⟩) rfl rfl ok W hva #[] (dU.iw.nil _)
 have hsz1:W0.heap.size≤w1.heap.size:=hsz
 refine Zo hn ok hva hcells Tq hSF (fun g hg=>xD (Ia hg)) rfl (Yg _) hcl hcb hcall (PV:=Dy W) fun ac hac v hv σ=>?_
 obtain⟨m',hs,x,w',fr,⟨hx,τ,hpast⟩,rfl,hfn,hmode,hdef,hkind,fnn,si,hres⟩:=hback ac hac v hv σ
 refine⟨⟨fr,[],w'⟩,hs,⟨rfl,hfn,hmode,hdef,hkind⟩,fun u hus hu1 hu2 hu3 hu4=>?_⟩
 have hf3:fnn=Tryz.f3:=by
  rw[hfn,func3] at si
  exact(Option.some.inj si).symm
 subst hf3
 have hr2:=results_tmp (fn:=Tryz.f3) rfl fr.tmps prog w'
 rw[hr2] at hres
 have hv2:uh fr=x:=by
  injection hres with h1 _
 have hp2:=hpast.size
 have hp3:=hpast.os
 have hp4:=hpast.output
 have hp5:=hpast.block
 refine⟨hv2.trans hx,(hu3.trans hp3).trans hos.1,(hu4.trans hp4).trans hos.2.1,?_,fun q hq=>?_⟩
 ·have:u.heap.size=w'.heap.size:=hus
  have e:(on W0 τ).heap.size=W0.heap.size:=rfl
  omega
 ·by_cases hzz:Z0 q
  ·exact hu2 q hzz
  ·have hq0:q<W0.heap.size:=zo
   exact((hu1 q zo hzz).trans (hp5 q hq0)).trans (hin q hzz)
end
section
open Go
section
variable{H:Type}{enc:TypeId × Value→H}{w:World}{fuel:Nat}
noncomputable abbrev TR (enc:TypeId × Value→H) (w:World):Nat→TypeId→List Value→Option (DataW H × List MemPlace):=DataW.trod enc prog w 0 (fun _=>true) true
theorem c3:Tryz.prog.cellsOf 3=1:=zk
theorem c37:Tryz.prog.cellsOf 37=1:=zk
theorem c9:Tryz.prog.cellsOf 9=1:=zk
theorem c39:Tryz.prog.cellsOf 39=2:=zk
theorem c68:Tryz.prog.cellsOf 68=5:=zk
theorem c41:Tryz.prog.cellsOf 41=5:=zk
theorem c88:Tryz.prog.cellsOf 88=4:=zk
theorem c112:Tryz.prog.cellsOf 112=1:=zk
theorem c22:Tryz.prog.cellsOf 22=1:=zk
theorem c23:Tryz.prog.cellsOf 23=1:=zk
theorem c24:Tryz.prog.cellsOf 24=1:=zk
theorem c26:Tryz.prog.cellsOf 26=5:=zk
theorem gM{t:TypeId}{k:IntKind}(ht:Tryz.prog.underlying t=some (.int k)){cs:List Value}{o:Nat}{y:DataW H × List MemPlace}(h:TR enc w fuel t ((cs.drop o).take 1)=some y):∃n,cs[o]? =some (.int k n)∧(Lit.int k n).wf=true:=by
 obtain⟨n,e,_,hw⟩:=DataW.trod_int ht h
 exact⟨n,WideShapes.cell_of_cut e,hw⟩
theorem Xe{t:TypeId}(ht:Tryz.prog.underlying t=some .string){cs:List Value}{o:Nat}{y:DataW H × List MemPlace}(h:TR enc w fuel t ((cs.drop o).take 1)=some y):∃s,cs[o]? =some (.string s)∧s.size≤maxLen:=by
 obtain⟨n,e,_,hw⟩:=DataW.trod_string ht h
 exact⟨n,WideShapes.cell_of_cut e,hw⟩
theorem L6{cs:List Value}{o j n:Nat}{v:Value}(h:((cs.drop o).take n)[j]? =some v):cs[o+j]? =some v:=by
 rw[List.getElem?_take] at h
 split at h
 ·rwa[List.getElem?_drop] at h
 ·cases h
theorem xJ{cs:List Value}{o:Nat}{y:DataW H × List MemPlace}(h:TR enc w fuel 39 ((cs.drop o).take 2)=some y):∃a b,cs[o]? =some (int i64 a)∧cs[o+1]? =some (int i64 b):=by
 obtain⟨xs,n,rfl,rfl,hl,hx,hf⟩:=DataW.trod_struct underlying39 h
 have f0:TR enc w n 3 ((((cs.drop o).take 2).drop 0).take (Tryz.prog.cellsOf 3))=xs[0]?:=hf 0 _ rfl
 have f1:TR enc w n 3 ((((cs.drop o).take 2).drop 1).take (Tryz.prog.cellsOf 3))=xs[1]?:=hf 1 _ rfl
 rw[c3] at f0
 rw[c3] at f1
 have hx:xs.length=2:=hx
 rw[List.getElem?_eq_getElem zo] at f0 f1
 obtain⟨a,h0,_⟩:=gM underlying3 f0
 obtain⟨b,h1,_⟩:=gM underlying3 f1
 exact⟨a,b,L6 h0,L6 h1⟩
theorem Uq{cs:List Value}{y:DataW H × List MemPlace}(h:TR enc w fuel 68 cs=some y):∃g:Good,(∀j,j<5→cs[j]? =some (g.cell j))∧g.name.size≤maxLen:=by
 obtain⟨xs,n,rfl,rfl,hl,hx,hf⟩:=DataW.trod_struct underlying68 h
 have f0:TR enc w n 9 ((cs.drop 0).take (Tryz.prog.cellsOf 9))=xs[0]?:=hf 0 _ rfl
 have f1:TR enc w n 3 ((cs.drop 1).take (Tryz.prog.cellsOf 3))=xs[1]?:=hf 1 _ rfl
 have f2:TR enc w n 3 ((cs.drop 2).take (Tryz.prog.cellsOf 3))=xs[2]?:=hf 2 _ rfl
 have f3:TR enc w n 39 ((cs.drop 3).take (Tryz.prog.cellsOf 39))=xs[3]?:=hf 3 _ rfl
 rw[c9] at f0
 rw[c3] at f1
 rw[c3] at f2
 rw[c39] at f3
 have hx:xs.length=4:=hx
 rw[List.getElem?_eq_getElem zo] at f0 f1 f2 f3
 obtain⟨s,h0,hs⟩:=Xe underlying9 f0
 obtain⟨c,h1,_⟩:=gM underlying3 f1
 obtain⟨p,h2,_⟩:=gM underlying3 f2
 obtain⟨lo,hi,h3,h4⟩:=xJ f3
 refine⟨⟨s,c,p,lo,hi⟩,fun j hj=>?_,hs⟩
 rcases(by omega:j=0∨j=1∨j=2∨j=3∨j=4) with rfl|rfl|rfl|rfl|rfl <;> assumption
theorem ij{cs:List Value}{y:DataW H × List MemPlace}(h:TR enc w fuel 41 cs=some y):∃g:Mv,(∀j,j<5→cs[j]? =some (g.cell j))∧True:=by
 obtain⟨xs,n,rfl,rfl,hl,hx,hf⟩:=DataW.trod_struct underlying41 h
 have f0:TR enc w n 37 ((cs.drop 0).take (Tryz.prog.cellsOf 37))=xs[0]?:=hf 0 _ rfl
 have f1:TR enc w n 3 ((cs.drop 1).take (Tryz.prog.cellsOf 3))=xs[1]?:=hf 1 _ rfl
 have f2:TR enc w n 3 ((cs.drop 2).take (Tryz.prog.cellsOf 3))=xs[2]?:=hf 2 _ rfl
 have f3:TR enc w n 39 ((cs.drop 3).take (Tryz.prog.cellsOf 39))=xs[3]?:=hf 3 _ rfl
 rw[c37] at f0
 rw[c3] at f1
 rw[c3] at f2
 rw[c39] at f3
 have hx:xs.length=4:=hx
 rw[List.getElem?_eq_getElem zo] at f0 f1 f2 f3
 obtain⟨s,h0,_⟩:=gM underlying37 f0
 obtain⟨c,h1,_⟩:=gM underlying3 f1
 obtain⟨p,h2,_⟩:=gM underlying3 f2
 obtain⟨lo,hi,h3,h4⟩:=xJ f3
 refine⟨⟨s,c,p,lo,hi⟩,fun j hj=>?_,trivial⟩
 rcases(by omega:j=0∨j=1∨j=2∨j=3∨j=4) with rfl|rfl|rfl|rfl|rfl <;> assumption
theorem ie{cs:List Value}{y:DataW H × List MemPlace}(h:TR enc w fuel 88 cs=some y):∃g:Ct,(∀j,j<4→cs[j]? =some (g.cell j))∧True:=by
 obtain⟨xs,n,rfl,rfl,hl,hx,hf⟩:=DataW.trod_struct underlying88 h
 have f0:TR enc w n 3 ((cs.drop 0).take (Tryz.prog.cellsOf 3))=xs[0]?:=hf 0 _ rfl
 have f1:TR enc w n 3 ((cs.drop 1).take (Tryz.prog.cellsOf 3))=xs[1]?:=hf 1 _ rfl
 have f2:TR enc w n 39 ((cs.drop 2).take (Tryz.prog.cellsOf 39))=xs[2]?:=hf 2 _ rfl
 rw[c3] at f0
 rw[c3] at f1
 rw[c39] at f2
 have hx:xs.length=3:=hx
 rw[List.getElem?_eq_getElem zo] at f0 f1 f2
 obtain⟨s,h0,_⟩:=gM underlying3 f0
 obtain⟨c,h1,_⟩:=gM underlying3 f1
 obtain⟨lo,hi,h3,h4⟩:=xJ f2
 refine⟨⟨s,c,lo,hi⟩,fun j hj=>?_,trivial⟩
 rcases(by omega:j=0∨j=1∨j=2∨j=3) with rfl|rfl|rfl|rfl <;> assumption
theorem Ye{cs:List Value}{y:DataW H × List MemPlace}(h:TR enc w fuel 112 cs=some y):∃n:Int,(∀j,j<1→cs[j]? =some (.int .u16 n))∧(0≤n∧n≤65535):=by
 obtain⟨n,rfl,_,hw⟩:=DataW.trod_int underlying112 h
 refine⟨n,fun j hj=>?_,?_⟩
 ·obtain rfl:j=0:=zo
  rfl
 ·simp[Lit.wf,IntKind.min,IntKind.max,IntKind.signed,IntKind.bits] at hw
  omega
theorem Cy{α:Type}[Inhabited α]{t e:TypeId}{size:Nat}(ht:Tryz.prog.underlying t=some (.slice e))(hc:Tryz.prog.cellsOf e=size)(hpos:0<size)(cell:α→Nat→Value)(Q:α→Prop)
 (hel:∀ (n:Nat) (cs:List Value) (y:DataW H × List MemPlace),TR enc w n e cs=some y→∃a,(∀j,j<size→cs[j]? =some (cell a j))∧Q a){cs:List Value}{x:DataW H × List MemPlace}(h:TR enc w fuel t cs=some x):
 ∃ (A:Option Addr) (len cap:Nat) (f:Nat→α),cs=[.slice A len cap]∧len≤cap∧cap≤maxLen∧Rows w w.heap.size size A len (fun i=>cell (f i))∧∀i,i<len→Q (f i):=by
 rcases DataW.trod_slice ht h with⟨rfl,_⟩|⟨a,len,cap,elems,rest,n,_,rfl,rfl,hb,hl,hm,hlen,JP,_,_⟩
 ·exact⟨none,0,0,fun _=>default,rfl,Nat.le_refl _,Nat.zero_le _,fun h=>absurd h zo,fun i hi=>absurd hi zo⟩
 have each:∀i,∃b:α,i<len→(a.block<w.heap.size∧∀j,j<size→w.cell? (a.add (i * size+j))=some (cell b j))∧Q b:=fun i=>by
  by_cases hi:i<len
  ·have h1:=JP i hi
   rw[List.getElem?_eq_getElem zo,Option.bind_eq_some_iff,hc] at h1
   obtain⟨cs',h2,h3⟩:=h1
   obtain⟨b,h4,h5⟩:=hel n cs' _ h3
   have hblk:=World.cells?_block h2 hpos
   obtain⟨_,_,h6⟩:=World.cells?_some h2
   refine⟨b,fun _=>⟨⟨by rwa[aD] at hblk,fun j hj=>?_⟩,h5⟩⟩
   rw[← qF,h6 j hj,h4 j hj]
  ·exact⟨default,fun h=>absurd h hi⟩
 obtain⟨f,hf⟩:=Classical.axiomOfChoice each
 exact⟨some a,len,cap,f,rfl,hl,hm,fun hn=>⟨a,rfl,(hf 0 hn).1.1,fun i j hi hj=>(hf i hi).1.2 j hj⟩,fun i hi=>(hf i hi).2⟩
instance:Inhabited Good:=⟨⟨.empty,0,0,0,0⟩⟩
instance:Inhabited Mv:=⟨⟨0,0,0,0,0⟩⟩
instance:Inhabited Ct:=⟨⟨0,0,0,0⟩⟩
theorem Pe{n:Int}(h:(Lit.int .i64 n).wf=true):-9223372036854775808≤n∧n≤9223372036854775807:=by
 simp[Lit.wf,IntKind.min,IntKind.max,IntKind.signed,IntKind.bits] at h
 omega
theorem xI{α:Type}[Inhabited α]{t e:TypeId}{size:Nat}(ht:Tryz.prog.underlying t=some (.slice e))(hc:Tryz.prog.cellsOf e=size)(hpos:0<size)(cell:α→Nat→Value)(Q:α→Prop)
 (hel:∀ (n:Nat) (cs:List Value) (y:DataW H × List MemPlace),TR enc w n e cs=some y→∃a,(∀j,j<size→cs[j]? =some (cell a j))∧Q a){cs:List Value}{o:Nat}{x:DataW H × List MemPlace}(h:TR enc w fuel t ((cs.drop o).take 1)=some x):
 ∃ (A:Option Addr) (len cap:Nat) (f:Nat→α),cs[o]? =some (.slice A len cap)∧len≤cap∧cap≤maxLen∧Rows w w.heap.size size A len (fun i=>cell (f i))∧∀i,i<len→Q (f i):=by
 obtain⟨A,len,cap,f,e1,h1⟩:=Cy ht hc hpos cell Q hel h
 exact⟨A,len,cap,f,WideShapes.cell_of_cut e1,h1⟩
theorem Pn{v:Value}{d:DataW H}{ps:List MemPlace}{base:Nat}(hv:Value.okWide prog w .any base 26 v)(h:DataW.Trod enc prog w 0 (fun _=>true) true 26 v d ps):
 ∃b:Bk,v=b.val∧b.At w w.heap.size∧b.ng≤b.gc∧-9223372036854775808≤b.days∧b.days≤9223372036854775807:=by
 obtain⟨cs,rfl,hsz⟩:=WideShapes.okWide_struct underlying26 hv
 rw[c26] at hsz
 obtain⟨fuel,h⟩:=h
 obtain⟨xs,n,rfl,hx2,hl,hx,hf⟩:=DataW.trod_struct underlying26 h
 have f0:TR enc w n 3 ((cs.toList.drop 0).take (Tryz.prog.cellsOf 3))=xs[0]?:=hf 0 _ rfl
 have f1:TR enc w n 3 ((cs.toList.drop 1).take (Tryz.prog.cellsOf 3))=xs[1]?:=hf 1 _ rfl
 have f2:TR enc w n 22 ((cs.toList.drop 2).take (Tryz.prog.cellsOf 22))=xs[2]?:=hf 2 _ rfl
 have f3:TR enc w n 23 ((cs.toList.drop 3).take (Tryz.prog.cellsOf 23))=xs[3]?:=hf 3 _ rfl
 have f4:TR enc w n 24 ((cs.toList.drop 4).take (Tryz.prog.cellsOf 24))=xs[4]?:=hf 4 _ rfl
 rw[c3] at f0
 rw[c3] at f1
 rw[c22] at f2
 rw[c23] at f3
 rw[c24] at f4
 have hx:xs.length=5:=hx
 rw[List.getElem?_eq_getElem zo] at f0 f1 f2 f3 f4
 obtain⟨days,h0,hd⟩:=gM underlying3 f0
 obtain⟨most,h1,_⟩:=gM underlying3 f1
 obtain⟨gA,ng,gc,g,h2,hgc,hgm,hg,hgn⟩:=xI underlying22 c68 zD Good.cell (fun g=>g.name.size≤maxLen) (fun _ _ _ h=>Uq h) f2
 obtain⟨mA,nm,mc,m,h3,hmc,hmm,hm,_⟩:=xI underlying23 c41 zD Mv.cell (fun _=>True) (fun _ _ _ h=>ij h) f3
 obtain⟨cA,nc,cc,c,h4,hcc,hcm,hc,_⟩:=xI underlying24 c88 zD Ct.cell (fun _=>True) (fun _ _ _ h=>ie h) f4
 refine⟨⟨days,most,gA,ng,gc,g,mA,nm,mc,m,cA,nc,cc,c⟩,?_,⟨hg,hm,hc,by show ng≤maxLen;omega,by show nm≤maxLen;omega,by show nc≤maxLen;omega,hgn⟩,hgc,Pe hd⟩
 obtain⟨L⟩:=cs
 simp only[List.size_toArray] at hsz
 match L,hsz with
 | [a0,a1,a2,a3,a4],_=>
   simp only[List.getElem?_cons_zero,List.getElem?_cons_succ,Option.some.injEq] at h0 h1 h2 h3 h4
   subst h0;subst h1;subst h2;subst h3;subst h4
   rfl
theorem KH{v:Value}{d:DataW H}{ps:List MemPlace}(hv:∃A n c,v=.slice A n c)(h:DataW.Trod enc prog w 0 (fun _=>true) true 27 v d ps):
 ∃ (A:Option Addr) (np pc:Nat) (f:Nat→Int),v=.slice A np pc∧np≤maxLen∧wP w w.heap.size A np f:=by
 obtain⟨A,n,c,rfl⟩:=hv
 obtain⟨fuel,h⟩:=h
 obtain⟨A,np,pc,f,e,h1,h2,h3,h4⟩:=Cy underlying27 c112 zD (fun n _=>.int .u16 n) (fun n=>0≤n∧n≤65535) (fun _ _ _ h=>Ye h) h
 exact⟨A,np,pc,f,by simpa [Value.cells] using e,zo,h3,h4⟩
end
end
end Go.Proofs.YtmjjocnfidnelaaGreat
