/- AD5 AD1 S9 LW LE LV AD2 -/
import Derived.Test.YtoldgagdgjilgaaGreatE9
set_option maxRecDepth 100000
set_option maxHeartbeats 16000000
set_option linter.unusedVariables false
set_option linter.unusedSectionVars false
set_option linter.unusedSimpArgs false
open Go.IntKind(i64)
open Go.Lib(hid)
open Go.Proofs.Tryz
open Go.Value(int)
namespace Go.Proofs.YtoldgagdgjilgaaGreat
section
open Go Go.Conc Go.ConcN Go.bV Go.Conc.Lib Go.aM Go.RowKit
attribute [local go_sem] Oper.semAt_some
variable[Inhabited aS]
noncomputable def Cg:Code:=lastOf (Tryz.f3.body.getD .skip)
theorem Eo(w0 w:World)(f:Nat→Value)(a4 a6 a8:Nat)(xl xu yl yu zl zu:Int)(hx:Whole w a4 30 #[int i64 xl,int i64 xu])(hy:Whole w a6 30 #[int i64 yl,int i64 yu])(hz:Whole w a8 30 #[int i64 zl,int i64 zu])
 (f9:f 9=.pointer (some ⟨a4,0,none⟩))(f11:f 11=.pointer (some ⟨a6,0,none⟩))(f13:f 13=.pointer (some ⟨a8,0,none⟩))(hb:Below w0.heap.size w0 w)(k1:0≤xl∧xl≤594∧0≤yl∧yl≤594∧0≤yu∧yu≤594)(k2:xl=xu→zl=xl+yl∧zu=xl+yu):
 aj Tryz.f3 (lT w0) [Cg] {tmps:=#[f 0,f 1,f 2,f 3,f 4,f 5,f 6,f 7,f 8,f 9,f 10,f 11,f 12,f 13,f 14,f 15,f 16,f 17,f 18,f 19,f 20,f 21,f 22,f 23,f 24,f 25,f 26,f 27,f 28,f 29,f 30,f 31,f 32,f 33,f 34,f 35,f 36,f 37,f 38,f 39,f 40,f 41,f 42,f 43,f 44,f 45,f 46,f 47,f 48,f 49,f 50,f 51,f 52,f 53,f 54,f 55,f 56,f 57,f 58,f 59,f 60,f 61,f 62,f 63,f 64,f 65,f 66,f 67,f 68,f 69,f 70,f 71,f 72,f 73,f 74,f 75,f 76,f 77,f 78,f 79,f 80,f 81,f 82,f 83,f 84,f 85,f 86,f 87,f 88,f 89,f 90,f 91,f 92,f 93,f 94,f 95,f 96,f 97,f 98,f 99,f 100,f 101,f 102,f 103,f 104,f 105,f 106,f 107,f 108,f 109,f 110,f 111,f 112,f 113,f 114,f 115,f 116,f 117,f 118,f 119,f 120,f 121,f 122,f 123,f 124,f 125,f 126,f 127,f 128,f 129,f 130,f 131,f 132,f 133,f 134,f 135,f 136,f 137,f 138,f 139,f 140,f 141,f 142,f 143,f 144,f 145,f 146,f 147],defers:=[] } w:=by
 obtain⟨S,hSd⟩:∃S:World→Prop,S=fun w'=>w'.cell? ⟨a4,0,none⟩=some (int i64 xl)∧w'.cell? ⟨a4,1,none⟩=some (int i64 xu)∧w'.cell? ⟨a6,0,none⟩=some (int i64 yl)∧w'.cell? ⟨a6,1,none⟩=some (int i64 yu)∧w'.cell? ⟨a8,0,none⟩=some (int i64 zl)∧w'.cell? ⟨a8,1,none⟩=some (int i64 zu):=⟨_,rfl⟩
 have D6:∀w',Below w.heap.size w w'→S w':=fun w' hb=>by rw[hSd];exact⟨(hx.below hb hx.lt).cell 0,(hx.below hb hx.lt).cell 1,(hy.below hb hy.lt).cell 0,(hy.below hb hy.lt).cell 1,(hz.below hb hz.lt).cell 0,(hz.below hb hz.lt).cell 1⟩
 have HB:=hid hb
 clear hx hy hz hb
 simp only[Cg,Tryz.f3,Option.getD_some,lastOf]
 rw[f9,f11,f13]
 clear f9 f11 f13
 repeat refine aj.seq ?_
 refine aj.F4 21 S zD rfl ?_
 obtain⟨wd,hwd⟩:∃wd,wd=w.drew:=⟨_,rfl⟩
 have hbd:Below w.heap.size w wd:=by rw[hwd];exact Below.drew (Below.refl _ _)
 rw[← hwd]
 clear hwd
 have hS0:=D6 wd hbd
 have iI:=hid fun w' (hb:Below wd.heap.size wd w')=>D6 w' (hbd.trans (hb.mono hbd.size))
 have s8:=hid (HB.out.trans (hbd.mono HB.out.size))
 clear D6 hbd
 subst hSd
 refine qC (i:=0) (some 125) hS0 ?_
 simp only[Act.put,List.setIfInBounds_toArray,List.set]
 refine qC (i:=1) (some 126) hS0 ?_
 simp only[Act.put,List.setIfInBounds_toArray,List.set]
 refine qC (i:=2) (some 127) hS0 ?_
 simp only[Act.put,List.setIfInBounds_toArray,List.set]
 refine qC (i:=3) (some 128) hS0 ?_
 simp only[Act.put,List.setIfInBounds_toArray,List.set]
 by_cases hx:xl=xu
 ·obtain⟨rfl,rfl⟩:=k2 hx
  subst hx
  have u1:IntKind.i64.wrap (xl+yl)=xl+yl:=IntWalk.i64_in _ zo
  have u2:IntKind.i64.wrap (xl+yu)=xl+yu:=IntWalk.i64_in _ zo
  refine qC (i:=4) (some 129) hS0 ?_
  simp only[Act.put,List.setIfInBounds_toArray,List.set]
  refine qC (i:=5) (some 130) hS0 ?_
  simp only[Act.put,List.setIfInBounds_toArray,List.set]
  refine qC (i:=6) (some 131) hS0 ?_
  simp only[Act.put,List.setIfInBounds_toArray,List.set]
  refine qC (i:=7) (some 132) hS0 ?_
  simp only[Act.put,List.setIfInBounds_toArray,List.set]
  refine qC (i:=8) (some 133) hS0 ?_
  simp only[Act.put,List.setIfInBounds_toArray,List.set]
  refine qC (i:=9) (some 134) hS0 ?_
  simp only[Act.put,List.setIfInBounds_toArray,List.set]
  refine qC (i:=10) (some 135) hS0 ?_
  simp only[Act.put,List.setIfInBounds_toArray,List.set]
  refine qC (i:=11) (some 136) hS0 ?_
  simp only[Act.put,List.setIfInBounds_toArray,List.set]
  refine qC (i:=12) (some 137) hS0 ?_
  simp only[Act.put,List.setIfInBounds_toArray,List.set]
  refine qC (i:=13) (some 138) hS0 ?_
  simp only[Act.put,List.setIfInBounds_toArray,List.set]
  refine qC (i:=14) (some 139) hS0 ?_
  simp only[Act.put,List.setIfInBounds_toArray,List.set]
  refine qC (i:=15) (some 140) hS0 ?_
  simp only[Act.put,List.setIfInBounds_toArray,List.set]
  refine qC (i:=16) (some 141) hS0 ?_
  simp only[Act.put,List.setIfInBounds_toArray,List.set]
  refine FQ 17 fun K hK=>?_
  go_simp
  refine(CH _ _ wd).mono ?_
  rintro e wt ⟨rfl,hbt⟩
  have hS1:=iI.out wt hbt
  have Nm:=hid (s8.out.trans (hbt.mono s8.out.size))
  clear hbt
  refine hK.out _ _ hS1 ?_
  clear hK K
  have he:=fun w=>WH (xl+yl) (xl+yu) (xl+yl) (xl+yu) w rfl rfl
  refine FQ 18 fun K hK=>?_
  go_simp
  refine hK.out _ _ hS1 ?_
  clear hK K
  refine FQ 19 fun K hK=>?_
  go_simp
  refine hK.out _ _ hS1 ?_
  clear hK K
  refine FQ 20 fun K hK=>?_
  go_simp
  refine hK.out _ _ hS1 ?_
  clear hK K
  refine uo zk ?_
  have HV:=hid (iN wt)
  refine fT rfl rfl rfl (enters_of func5 zk rfl) (Rc:=lT wt) (args:=#[]) (by simp only[List.map_toArray,List.map_cons,List.map_nil]) HV.out ?_
  rintro x w2 ⟨rfl,hp⟩
  simp only[List.drop_succ_cons,List.drop_zero,Act.put,List.setIfInBounds_toArray,List.set_cons_succ,List.set_cons_zero]
  gi_wp2
  simp only[sP]
  gi_wp2
  exact⟨rfl,_,results_tmp rfl _ _ _,_,rfl,rfl,Past.of Nm.out hp⟩
 ·have hx1:decide (xl=xu)=false:=decide_eq_false hx
  have hx2:(xl != xu)=true:=by simpa using hx
  refine qC (i:=4) (some 129) hS0 ?_
  simp only[Act.put,List.setIfInBounds_toArray,List.set]
  refine qC (i:=5) (some 130) hS0 ?_
  simp only[Act.put,List.setIfInBounds_toArray,List.set]
  refine qC (i:=6) (some 131) hS0 ?_ (v:=undef) (hy:=⟨Or.inr ⟨zr,rfl⟩,fun _=>rfl⟩)
  simp only[Act.put,List.setIfInBounds_toArray,List.set]
  refine qC (i:=7) (some 132) hS0 ?_ (v:=undef) (hy:=⟨Or.inr ⟨zr,rfl⟩,fun _=>rfl⟩)
  simp only[Act.put,List.setIfInBounds_toArray,List.set]
  refine qC (i:=8) (some 133) hS0 ?_ (v:=undef) (hy:=⟨Or.inr ⟨zr,rfl⟩,fun _=>rfl⟩)
  simp only[Act.put,List.setIfInBounds_toArray,List.set]
  refine qC (i:=9) (some 134) hS0 ?_ (v:=undef) (hy:=⟨Or.inr ⟨zr,rfl⟩,fun _=>rfl⟩)
  simp only[Act.put,List.setIfInBounds_toArray,List.set]
  refine qC (i:=10) (some 135) hS0 ?_ (v:=undef) (hy:=⟨Or.inr ⟨zr,rfl⟩,fun _=>rfl⟩)
  simp only[Act.put,List.setIfInBounds_toArray,List.set]
  refine qC (i:=11) (some 136) hS0 ?_ (v:=undef) (hy:=⟨Or.inr ⟨zr,rfl⟩,fun _=>rfl⟩)
  simp only[Act.put,List.setIfInBounds_toArray,List.set]
  refine qC (i:=12) (some 137) hS0 ?_ (v:=undef) (hy:=⟨Or.inr ⟨zr,rfl⟩,fun _=>rfl⟩)
  simp only[Act.put,List.setIfInBounds_toArray,List.set]
  refine qC (i:=13) (some 138) hS0 ?_ (v:=undef) (hy:=⟨Or.inr ⟨zr,rfl⟩,fun _=>rfl⟩)
  simp only[Act.put,List.setIfInBounds_toArray,List.set]
  refine qC (i:=14) (some 139) hS0 ?_ (v:=undef) (hy:=⟨Or.inr ⟨zr,rfl⟩,fun _=>rfl⟩)
  simp only[Act.put,List.setIfInBounds_toArray,List.set]
  refine qC (i:=15) (some 140) hS0 ?_ (v:=undef) (hy:=⟨Or.inr ⟨zr,rfl⟩,fun _=>rfl⟩)
  simp only[Act.put,List.setIfInBounds_toArray,List.set]
  refine qC (i:=16) (some 141) hS0 ?_ (v:=undef) (hy:=⟨Or.inr ⟨zr,rfl⟩,fun _=>rfl⟩)
  simp only[Act.put,List.setIfInBounds_toArray,List.set]
  refine FQ 17 fun K hK=>?_
  go_simp
  refine hK.out _ _ hS0 ?_
  clear hK K
  refine FQ 18 fun K hK=>?_
  go_simp
  refine hK.out _ _ hS0 ?_
  clear hK K
  refine FQ 19 fun K hK=>?_
  go_simp
  refine hK.out _ _ hS0 ?_
  clear hK K
  refine FQ 20 fun K hK=>?_
  go_simp
  refine hK.out _ _ hS0 ?_
  clear hK K
  refine uo zk ?_
  have HV:=hid (iN wd)
  refine fT rfl rfl rfl (enters_of func5 zk rfl) (Rc:=lT wd) (args:=#[]) (by simp only[List.map_toArray,List.map_cons,List.map_nil]) HV.out ?_
  rintro x w2 ⟨rfl,hp⟩
  simp only[List.drop_succ_cons,List.drop_zero,Act.put,List.setIfInBounds_toArray,List.set_cons_succ,List.set_cons_zero]
  gi_wp2
  simp only[sP]
  gi_wp2
  exact⟨rfl,_,results_tmp rfl _ _ _,_,rfl,rfl,Past.of s8.out hp⟩
theorem XD(T:Array Value)(h:T.size=148):T=#[T.getD 0 undef,T.getD 1 undef,T.getD 2 undef,T.getD 3 undef,T.getD 4 undef,T.getD 5 undef,T.getD 6 undef,T.getD 7 undef,T.getD 8 undef,T.getD 9 undef,T.getD 10 undef,T.getD 11 undef,T.getD 12 undef,T.getD 13 undef,T.getD 14 undef,T.getD 15 undef,T.getD 16 undef,T.getD 17 undef,T.getD 18 undef,T.getD 19 undef,T.getD 20 undef,T.getD 21 undef,T.getD 22 undef,T.getD 23 undef,T.getD 24 undef,T.getD 25 undef,T.getD 26 undef,T.getD 27 undef,T.getD 28 undef,T.getD 29 undef,T.getD 30 undef,T.getD 31 undef,T.getD 32 undef,T.getD 33 undef,T.getD 34 undef,T.getD 35 undef,T.getD 36 undef,T.getD 37 undef,T.getD 38 undef,T.getD 39 undef,T.getD 40 undef,T.getD 41 undef,T.getD 42 undef,T.getD 43 undef,T.getD 44 undef,T.getD 45 undef,T.getD 46 undef,T.getD 47 undef,T.getD 48 undef,T.getD 49 undef,T.getD 50 undef,T.getD 51 undef,T.getD 52 undef,T.getD 53 undef,T.getD 54 undef,T.getD 55 undef,T.getD 56 undef,T.getD 57 undef,T.getD 58 undef,T.getD 59 undef,T.getD 60 undef,T.getD 61 undef,T.getD 62 undef,T.getD 63 undef,T.getD 64 undef,T.getD 65 undef,T.getD 66 undef,T.getD 67 undef,T.getD 68 undef,T.getD 69 undef,T.getD 70 undef,T.getD 71 undef,T.getD 72 undef,T.getD 73 undef,T.getD 74 undef,T.getD 75 undef,T.getD 76 undef,T.getD 77 undef,T.getD 78 undef,T.getD 79 undef,T.getD 80 undef,T.getD 81 undef,T.getD 82 undef,T.getD 83 undef,T.getD 84 undef,T.getD 85 undef,T.getD 86 undef,T.getD 87 undef,T.getD 88 undef,T.getD 89 undef,T.getD 90 undef,T.getD 91 undef,T.getD 92 undef,T.getD 93 undef,T.getD 94 undef,T.getD 95 undef,T.getD 96 undef,T.getD 97 undef,T.getD 98 undef,T.getD 99 undef,T.getD 100 undef,T.getD 101 undef,T.getD 102 undef,T.getD 103 undef,T.getD 104 undef,T.getD 105 undef,T.getD 106 undef,T.getD 107 undef,T.getD 108 undef,T.getD 109 undef,T.getD 110 undef,T.getD 111 undef,T.getD 112 undef,T.getD 113 undef,T.getD 114 undef,T.getD 115 undef,T.getD 116 undef,T.getD 117 undef,T.getD 118 undef,T.getD 119 undef,T.getD 120 undef,T.getD 121 undef,T.getD 122 undef,T.getD 123 undef,T.getD 124 undef,T.getD 125 undef,T.getD 126 undef,T.getD 127 undef,T.getD 128 undef,T.getD 129 undef,T.getD 130 undef,T.getD 131 undef,T.getD 132 undef,T.getD 133 undef,T.getD 134 undef,T.getD 135 undef,T.getD 136 undef,T.getD 137 undef,T.getD 138 undef,T.getD 139 undef,T.getD 140 undef,T.getD 141 undef,T.getD 142 undef,T.getD 143 undef,T.getD 144 undef,T.getD 145 undef,T.getD 146 undef,T.getD 147 undef]:=by
 have e:T.toList=(List.range 148).map (fun i=>T.getD i undef):=by
  apply List.ext_getElem
  ·simp[h]
  ·intro i h1 h2
   have hi:i<T.size:=by simpa using h1
   simp[Array.getD_eq_getD_getElem?,hi]
 rw[← Array.toList_inj,e]
 rfl
theorem En(w0 w:World)(T:Array Value)(hT:T.size=148)(a4 a6 a8:Nat)(xl xu yl yu zl zu:Int)(hx:Whole w a4 30 #[int i64 xl,int i64 xu])(hy:Whole w a6 30 #[int i64 yl,int i64 yu])(hz:Whole w a8 30 #[int i64 zl,int i64 zu])
 (f9:T.getD 9 undef=.pointer (some ⟨a4,0,none⟩))(f11:T.getD 11 undef=.pointer (some ⟨a6,0,none⟩))(f13:T.getD 13 undef=.pointer (some ⟨a8,0,none⟩))(hb:Below w0.heap.size w0 w)(k1:0≤xl∧xl≤594∧0≤yl∧yl≤594∧0≤yu∧yu≤594)(k2:xl=xu→zl=xl+yl∧zu=xl+yu):
 aj Tryz.f3 (lT w0) [Cg] {tmps:=T,defers:=[] } w:=by
 have h:=Eo w0 w (fun i=>T.getD i undef) a4 a6 a8 xl xu yl yu zl zu hx hy hz f9 f11 f13 hb k1 k2
 rw[XD T hT]
 exact h
theorem FB(b:Bk)(ok:b.Ok):∀s∈ak b,dR s:=fun s hs=>by
 have:=List.mem_range.1 (List.mem_filter.1 hs).1
 exact Nat.lt_of_lt_of_le this (Nat.le_trans (Nat.pow_le_pow_right zD ok.moves.1) zD)
theorem RD(b:Bk)(ok:b.Ok)(hcap:b.ng≤b.gc):∃ (V:Nat→Int→Int→Int × Int) (sb:Int),(sb=0∨sb=9)∧
 (∀ (gd:Nat) (a z:Int) (w:World),b.At w w.heap.size→gd<b.ng→mJ a z 1 b.days=true→CallsIn FF 0 prog 6 #[.agg b.cells,int i64 gd,int i64 a,int i64 z] w fun e w'=>e=.returned (.tuple #[.agg #[int i64 (V gd a z).1,int i64 (V gd a z).2],int i64 sb])∧Below w.heap.size w w')∧
 (sb=0→∀ (gd:Nat) (d:Int),gd<b.ng→1≤d→d<b.days→0≤(V gd 1 d).1∧(V gd 1 d).1≤(V gd 1 d).2∧(V gd 1 d).2≤594∧0≤(V gd (d+1) b.days).1∧(V gd (d+1) b.days).1≤(V gd (d+1) b.days).2∧(V gd (d+1) b.days).2≤594∧(V gd 1 b.days).1≤(V gd 1 b.days).2∧(V gd 1 b.days).2≤594∧
  (V gd 1 d).1+(V gd (d+1) b.days).1≤(V gd 1 b.days).1∧(V gd 1 b.days).2≤(V gd 1 d).2+(V gd (d+1) b.days).2∧(V gd 1 d).1≤(V gd 1 b.days).1∧(V gd (d+1) b.days).1≤(V gd 1 b.days).1∧(V gd 1 d).2≤(V gd 1 b.days).2∧(V gd (d+1) b.days).2≤(V gd 1 b.days).2∧
  ((V gd 1 d).1=(V gd 1 d).2→(V gd 1 b.days).1=(V gd 1 d).1+(V gd (d+1) b.days).1∧(V gd 1 b.days).2=(V gd 1 d).1+(V gd (d+1) b.days).2)):=by
 refine⟨fun gd a z=>((bg (fun h=>aQ b h gd a z b.nm) (aD b (ak b))).1,(bg (fun h=>aQ b h gd a z b.nm) (aD b (ak b))).2.1),if (aD b (ak b)).isEmpty then 9 else 0,?_,?_,?_⟩
 ·split <;> simp
 ·intro gd a z w hA hgd hf
  refine(wW b gd a z w hA ok hcap (FB b ok) hgd hf).mono fun e w' h=>⟨?_,h.2⟩
  rw[h.1]
  have:(if (bg (fun h=>aQ b h gd a z b.nm) (aD b (ak b))).2.2=true then(0:Int) else 9)=if (aD b (ak b)).isEmpty=true then 9 else 0:=by
   cases hL:aD b (ak b) with
   | nil=>rfl
   | cons x l=>
     obtain⟨p,q,e,_⟩:=nU (fun h=>aQ b h gd a z b.nm) (L:=x :: l) zs
     rw[e]
     rfl
  rw[this]
 ·intro h0 gd d hgd h1 h2
  have hne:aD b (ak b)≠[]:=fun e=>by rw[e] at h0;simp at h0
  obtain⟨xl,xu,yl,yu,zl,zu,ex,ey,ez,k⟩:=Uv (b:=b) (gd:=gd) (iX b ok (ak b) (FB b ok)) h1 h2 ok.moves.1 hne
  simp only[ex,ey,ez]
  exact k
theorem Qd(w:World)(b:Bk)(h:b.At w w.heap.size)(hgc:b.ng≤b.gc)(hd:-9223372036854775808≤b.days∧b.days≤9223372036854775807)(good day:Int)(hg:0≤good∧good≤255)(hdy:0≤day∧day≤255):
 iH 3 #[b.val,.int .u8 good,.int .u8 day] w (lT w):=by
 obtain⟨days,most,gA,ng,gc,g,mA,nm,mc,m,cA,nc,cc,c⟩:=b
 simp only[Bk.val,Bk.cells]
 refine jV func3 rfl zs ?_
 simp only[show Tryz.f3.ntmps=148 from rfl,List.size_toArray,List.length_cons,List.length_nil,Nat.reduceAdd,Nat.reduceSub,Array.replicate_succ,Array.replicate_zero,List.push_toArray,List.append_toArray,List.nil_append,List.cons_append]
 repeat refine aj.seq ?_
 refine aj.item ?_
 gi_wp2
 repeat refine aj.seq ?_
 refine aj.item ?_
 have Hh:=hid h
 have Pa:=hid hgc
 have W1:=hid ((h.alloc (Nat.le_refl _) (.cells #[int i64 days,int i64 most,.slice gA ng gc,.slice mA nm mc,.slice cA nc cc] 26)).more (show w.heap.size≤_ by simp):(⟨days,most,gA,ng,gc,g,mA,nm,mc,m,cA,nc,cc,c⟩:Bk).At (w.alloc (.cells #[int i64 days,int i64 most,.slice gA ng gc,.slice mA nm mc,.slice cA nc cc] 26)) (w.alloc (.cells #[int i64 days,int i64 most,.slice gA ng gc,.slice mA nm mc,.slice cA nc cc] 26)).heap.size)
 have hbx:=Whole.new w 26 #[int i64 days,int i64 most,.slice gA ng gc,.slice mA nm mc,.slice cA nc cc]
 have hB1:Below w.heap.size w (w.alloc (.cells #[int i64 days,int i64 most,.slice gA ng gc,.slice mA nm mc,.slice cA nc cc] 26)):=(Below.refl _ _).alloc (Nat.le_refl _) _
 have hs1:w.heap.size<(w.alloc (.cells #[int i64 days,int i64 most,.slice gA ng gc,.slice mA nm mc,.slice cA nc cc] 26)).heap.size:=zs
 clear h hgc
 generalize w.alloc (.cells #[int i64 days,int i64 most,.slice gA ng gc,.slice mA nm mc,.slice cA nc cc] 26)=w1 at *
 have c1:∀o,w1.cell? ⟨w.heap.size,o,none⟩=(#[int i64 days,int i64 most,.slice gA ng gc,.slice mA nm mc,.slice cA nc cc]:Array Value)[o]?:=fun o=>hbx.cell o
 have ua:=hid hbx
 clear hbx
 gi_wp2_with (gi_at_call 4;refine(UY w1 W1.out hd).mono ?_;rintro e w2 ⟨t,rfl,ht,hb2⟩;have HT:=hid ht;clear ht;have c2:w2.cell? ⟨w.heap.size,0,none⟩=some (int i64 days):=(ua.out.below hb2 hs1).cell 0)
 all_goals have W2:=hid ((W1.out.below hb2).more hb2.size)
 all_goals have hB2:=hid (hB1.trans (hb2.mono (Nat.le_of_lt hs1)))
 all_goals have uE:=hid (ua.out.below hb2 hs1)
 all_goals clear c1 W1 ua hB1 hb2 hs1
 rotate_left 1
 ·rename_i ht
  subst ht
  have ok:=HT.out rfl
  clear HT
  have o1:1≤days∧days≤99:=ok.days
  have o2:1≤ng∧ng≤3:=ok.dG.1
  by_cases hd2:days<2
  ·refine aj.cond_true (by simp[hd2,Act.eval]) ?_
   have HV:=hid (iN w2)
   repeat refine aj.seq ?_
   refine aj.ig 0 zD ?_
   simp only[List.take_zero]
   refine fT rfl rfl rfl (enters_of func5 zk rfl) (Rc:=lT w2) (args:=#[]) (by simp only[List.map_toArray,List.map_cons,List.map_nil]) HV.out ?_
   rintro x wz ⟨rfl,hp⟩
   simp only[List.drop_succ_cons,List.drop_zero,Act.put,List.setIfInBounds_toArray,List.set_cons_succ,List.set_cons_zero]
   gi_wp2
   simp only[sP]
   gi_wp2
   exact⟨rfl,_,results_tmp rfl _ _ _,_,rfl,rfl,Past.of hB2.out hp⟩
  ·refine aj.cond_false (by simp[hd2,Act.eval]) ?_
   refine aj.skip ?_
   repeat refine aj.seq ?_
   refine aj.item ?_
   have c0:w2.cell? ⟨w.heap.size,2,none⟩=some (.slice gA ng gc):=uE.out.cell 2
   have b1:0≤good % ng∧good % ng<ng:=⟨Int.emod_nonneg _ zo,Int.emod_lt_of_pos _ zo⟩
   have b2:0≤day % (days - 1)∧day % (days - 1)<days - 1:=⟨Int.emod_nonneg _ zo,Int.emod_lt_of_pos _ zo⟩
   obtain⟨gd,hgd⟩:∃gd:Nat,(gd:Int)=good % ng:=⟨(good % ng).toNat,zo⟩
   obtain⟨q,hq⟩:∃q,q=day % (days - 1):=⟨_,rfl⟩
   have e1:IntKind.i64.wrap good=good:=IntWalk.i64_in _ zo
   have e2:IntKind.i64.wrap day=day:=IntWalk.i64_in _ zo
   have e3:IntKind.i64.wrap (good.tmod ng)=gd:=by rw[Int.tmod_eq_emod_of_nonneg hg.1,hgd];exact IntWalk.i64_in _ zo
   have e4:IntKind.i64.wrap (days - 1)=days - 1:=IntWalk.i64_in _ zo
   have e5:IntKind.i64.wrap (day.tmod (days - 1))=q:=by rw[Int.tmod_eq_emod_of_nonneg hdy.1,hq];exact IntWalk.i64_in _ zo
   have e6:IntKind.i64.wrap (q+1)=q+1:=IntWalk.i64_in _ zo
   have z1:((ng:Int) == 0)=false:=zm
   have z2:(days - 1 == 0)=false:=zm
   have z3:¬ ((ng:Int)=0):=zo
   have z4:¬ (days - 1=0):=zo
   have g1:gd<ng:=zo
   have q1:0≤q∧q<days - 1:=zo
   have e7:=hid (show wrap64 (day % (days - 1)+1)=q+1 by rw[← hq];exact IntWalk.wrap64_in _ zo)
   have e8:=hid hgd.symm
   clear hgd hq b1 b2
   gi_wp2
   gi_quiet (fail)
   gi_wp2
   obtain⟨V,sb,hsb,hl,hkk⟩:=RD ⟨days,most,gA,ng,gc,g,mA,nm,mc,m,cA,nc,cc,c⟩ ok Pa.out
   have HS:=hid (hl gd)
   have HKK:=hid hkk
   clear hl hkk
   clear e1 e2 e3 e4 e5 z1 z2 z3 z4 c0 c2
   obtain⟨w3,hw3⟩:∃w3,w3=w2.drewN nq:=⟨_,rfl⟩
   have hb3:Below w2.heap.size w2 w3:=by rw[hw3];exact below_drewN (Below.refl _ _) _
   rw[← hw3,e7.out,e8.out]
   clear e7 e8
   clear hw3
   have B3:=hid (hB2.out.trans (hb3.mono hB2.out.size))
   have W3:=hid ((W2.out.below hb3).more hb3.size)
   have X3:=hid (uE.out.below hb3 uE.out.lt)
   clear hb3 W2 hB2 uE
   repeat refine aj.seq ?_
   refine aj.item ?_
   have c0:∀o,w3.cell? ⟨w.heap.size,o,none⟩=(#[int i64 days,int i64 most,.slice gA ng gc,.slice mA nm mc,.slice cA nc cc]:Array Value)[o]?:=fun o=>X3.out.cell o
   gi_wp2_with (gi_at_call 6;refine(HS.out _ _ _ W3.out g1 (by simp[mJ,fJ];omega)).mono ?_;rintro e w4 ⟨rfl,hb4⟩)
   obtain⟨w5,wh⟩:∃x,x=w4.alloc (.cells #[int i64 (V gd 1 (q+1)).1,int i64 (V gd 1 (q+1)).2] 30):=⟨_,rfl⟩
   rw[← wh]
   have hb5:Below w3.heap.size w3 w5:=by rw[wh];exact hb4.alloc hb4.size _
   have S5:=hid (show Whole w5 w4.heap.size 30 #[int i64 (V gd 1 (q+1)).1,int i64 (V gd 1 (q+1)).2] by rw[wh];exact Whole.new _ _ _)
   have B5:=hid (B3.out.trans (hb5.mono B3.out.size))
   have W5:=hid ((W3.out.below hb5).more hb5.size)
   have X5:=hid (X3.out.below hb5 X3.out.lt)
   clear hb5 hb4 wh c0 B3 W3 X3
   repeat refine aj.seq ?_
   refine aj.item ?_
   have c0:∀o,w5.cell? ⟨w.heap.size,o,none⟩=(#[int i64 days,int i64 most,.slice gA ng gc,.slice mA nm mc,.slice cA nc cc]:Array Value)[o]?:=fun o=>X5.out.cell o
   gi_wp2_with (gi_at_call 6;refine(HS.out _ _ _ W5.out g1 (by simp[mJ,fJ];omega)).mono ?_;rintro e w6 ⟨rfl,hb6⟩)
   obtain⟨w7,hw7⟩:∃x,x=w6.alloc (.cells #[int i64 (V gd (q+1+1) days).1,int i64 (V gd (q+1+1) days).2] 30):=⟨_,rfl⟩
   rw[← hw7]
   have D7:Below w5.heap.size w5 w7:=by rw[hw7];exact hb6.alloc hb6.size _
   have ur:=hid (show Whole w7 w6.heap.size 30 #[int i64 (V gd (q+1+1) days).1,int i64 (V gd (q+1+1) days).2] by rw[hw7];exact Whole.new _ _ _)
   have uk:=hid (S5.out.below D7 S5.out.lt)
   have B7:=hid (B5.out.trans (D7.mono B5.out.size))
   have W7:=hid ((W5.out.below D7).more D7.size)
   have X7:=hid (X5.out.below D7 X5.out.lt)
   clear D7 hb6 hw7 c0 B5 W5 X5 S5
   repeat refine aj.seq ?_
   refine aj.item ?_
   have c0:∀o,w7.cell? ⟨w.heap.size,o,none⟩=(#[int i64 days,int i64 most,.slice gA ng gc,.slice mA nm mc,.slice cA nc cc]:Array Value)[o]?:=fun o=>X7.out.cell o
   gi_wp2_with (gi_at_call 6;refine(HS.out _ _ _ W7.out g1 (by simp[mJ,fJ];omega)).mono ?_;rintro e w8 ⟨rfl,QN⟩)
   obtain⟨w9,Ua⟩:∃x,x=w8.alloc (.cells #[int i64 (V gd 1 days).1,int i64 (V gd 1 days).2] 30):=⟨_,rfl⟩
   rw[← Ua]
   have bf:Below w7.heap.size w7 w9:=by rw[Ua];exact QN.alloc QN.size _
   have ux:=hid (show Whole w9 w8.heap.size 30 #[int i64 (V gd 1 days).1,int i64 (V gd 1 days).2] by rw[Ua];exact Whole.new _ _ _)
   have uu:=hid (uk.out.below bf uk.out.lt)
   have uv:=hid (ur.out.below bf ur.out.lt)
   have B9:=hid (B7.out.trans (bf.mono B7.out.size))
   clear bf QN Ua c0 B7 W7 X7 uk ur HS
   have HK:=hid fun h0=>HKK.out h0 gd (q+1) g1 zo zo
   clear HKK
   generalize (V gd 1 (q+1)).1=xl at *
   generalize (V gd 1 (q+1)).2=xu at *
   generalize (V gd (q+1+1) days).1=yl at *
   generalize (V gd (q+1+1) days).2=yu at *
   generalize (V gd 1 days).1=zl at *
   generalize (V gd 1 days).2=zu at *
   generalize w4.heap.size=a4 at *
   generalize w6.heap.size=a6 at *
   generalize w8.heap.size=a8 at *
   repeat refine aj.seq ?_
   refine aj.item ?_
   rcases hsb with rfl|rfl
   ·gi_wp2
    refine aj.cond_false (by simp[Act.eval]) ?_
    refine aj.skip ?_
    repeat refine aj.seq ?_
    refine aj.item ?_
    gi_wp2
    refine aj.cond_false (by simp[Act.eval]) ?_
    refine aj.skip ?_
    repeat refine aj.seq ?_
    refine aj.item ?_
    have x0:w9.cell? ⟨a4,0,none⟩=some (int i64 xl):=uu.out.cell 0
    have x1:w9.cell? ⟨a4,1,none⟩=some (int i64 xu):=uu.out.cell 1
    have y0:w9.cell? ⟨a6,0,none⟩=some (int i64 yl):=uv.out.cell 0
    have y1:w9.cell? ⟨a6,1,none⟩=some (int i64 yu):=uv.out.cell 1
    have z0:w9.cell? ⟨a8,0,none⟩=some (int i64 zl):=ux.out.cell 0
    have z1:w9.cell? ⟨a8,1,none⟩=some (int i64 zu):=ux.out.cell 1
    obtain⟨k1,k2,k3,k4,k5,k6,k7,k8,k9,k10,k11,k12,k13,k14,k15⟩:=HK.out (by first|rfl|trivial)
    have d1:decide (xl<0)=false:=decide_eq_false zo
    have d2:decide (yl<0)=false:=decide_eq_false zo
    have u1:IntKind.i64.wrap (xl+yl)=xl+yl:=IntWalk.i64_in _ zo
    have u2:IntKind.i64.wrap (xu+yu)=xu+yu:=IntWalk.i64_in _ zo
    have d3:decide (zl<xl+yl)=false:=decide_eq_false zo
    have d4:decide (xu+yu<zu)=false:=decide_eq_false zo
    gi_wp2
    all_goals refine aj.cond_false (by simp[Act.eval];omega) ?_
    all_goals refine aj.skip ?_
    all_goals exact En w w9 _ rfl a4 a6 a8 xl xu yl yu zl zu uu.out uv.out ux.out rfl rfl rfl B9.out zo k15
   ·gi_wp2
    refine aj.cond_false (by simp[Act.eval]) ?_
    refine aj.skip ?_
    repeat refine aj.seq ?_
    refine aj.item ?_
    gi_wp2
    refine aj.cond_true (by simp[Act.eval]) ?_
    have HV:=hid (iN w9)
    repeat refine aj.seq ?_
    refine aj.ig 3 zD ?_
    simp only[List.take_succ_cons,List.take_zero]
    gi_wp2
    refine fT rfl rfl rfl (enters_of func5 zk rfl) (Rc:=lT w9) (args:=#[]) (by simp only[List.map_toArray,List.map_cons,List.map_nil]) HV.out ?_
    rintro x wz ⟨rfl,hp⟩
    simp only[List.drop_succ_cons,List.drop_zero,Act.put,List.setIfInBounds_toArray,List.set_cons_succ,List.set_cons_zero]
    gi_wp2
    simp only[sP]
    gi_wp2
    exact⟨rfl,_,results_tmp rfl _ _ _,_,rfl,rfl,Past.of B9.out hp⟩
 ·refine aj.cond_true (by simp[Act.eval]) ?_
  have HV:=hid (iN w2)
  repeat refine aj.seq ?_
  refine aj.ig 0 zD ?_
  simp only[List.take_zero]
  refine fT rfl rfl rfl (enters_of func5 zk rfl) (Rc:=lT w2) (args:=#[]) (by simp only[List.map_toArray,List.map_cons,List.map_nil]) HV.out ?_
  rintro x wz ⟨rfl,hp⟩
  simp only[List.drop_succ_cons,List.drop_zero,Act.put,List.setIfInBounds_toArray,List.set_cons_succ,List.set_cons_zero]
  gi_wp2
  simp only[sP]
  gi_wp2
  exact⟨rfl,_,results_tmp rfl _ _ _,_,rfl,rfl,Past.of hB2.out hp⟩
end
section
open Go.RowKit
section
variable{days most:Int}{gA mA cA:Option Addr}{ng gc nm mc nc cc:Nat}{g:Nat→Good}{m:Nat→Mv}{c:Nat→Ct}
end
end
section
open Go Go.Conc Go.ConcN Go.bV Go.Conc.Lib Go.aM Go.RowKit
attribute [local go_sem] Oper.semAt_some
variable[Inhabited aS]
end
section
open Go Go.Conc Go.ConcN Go.bV Go.Conc.Lib Go.aM
variable[Inhabited aS]
def BZ(W:World)(x:Value)(u:World):Prop:=x=.bool true∧u.os=W.os∧u.output=W.output∧W.heap.size≤u.heap.size∧∀q,q<W.heap.size→u.heap[q]? =W.heap[q]?
theorem Rows.lift{W W0:World}(hc:∀p x,W.cell? p=some x→W0.cell? p=some x){B size n:Nat}{A:Option Addr}{f:Nat→Nat→Value}(h:Rows W B size A n f):Rows W0 B size A n f:=fun hn=>by
 obtain⟨ad,e,hb,k⟩:=h hn
 exact⟨ad,e,hb,fun i j hi hj=>hc _ _ (k i j hi hj)⟩
theorem Wh(n:Nat):SF.room n:=fun d h=>by cases h
def Sx(W:World)(q:Nat):Prop:=∃o,W.heap[q]? =some o∧¬ dJ.Plain ⟨fun _=>False,uH⟩ o
open Classical in
noncomputable def bare(Z:Nat→Prop)(W:World):World:={W with heap:=W.heap.mapIdx fun q o=>if Z q then dJ.X0 q else o }
theorem Ma(Z:Nat→Prop)(W:World):(bare Z W).heap.size=W.heap.size:=by show(W.heap.mapIdx _).size=_;simp
theorem Ux{Z:Nat→Prop}{W:World}{q:Nat}(hq:¬ Z q):(bare Z W).heap[q]? =W.heap[q]?:=by
 simp only[bare,Array.getElem?_mapIdx]
 cases W.heap[q]? <;> simp[hq]
theorem Qj{Z:Nat→Prop}{W:World}{q:Nat}{o:Obj}(hq:Z q)(ho:W.heap[q]? =some o):(bare Z W).heap[q]? =some (dJ.X0 q):=by
 simp only[bare,Array.getElem?_mapIdx,ho]
 simp[hq]
theorem LZ(Ty:gu prog SF.fn)(W:World)(b:Bk)(h:b.At W W.heap.size)(hgc:b.ng≤b.gc)(hd:-9223372036854775808≤b.days∧b.days≤9223372036854775807)(good day:Int)(hg:0≤good∧good≤255)(hdy:0≤day∧day≤255):
 ∃M last o w' t',runNT prog (M+1) (solo (G (Frame.enter prog 3 #[b.val,.int .u8 good,.int .u8 day] .normal) []) W) #[]=(.ended o w',t')∧
  runN prog M (solo (G (Frame.enter prog 3 #[b.val,.int .u8 good,.int .u8 day] .normal) []) W)=.next last∧step prog last=.ended o w'∧Conc.Good prog (BZ W) last o w' t':=by
 obtain⟨Z0,Kd⟩:∃Z:Nat→Prop,Z=Sx W:=⟨_,rfl⟩
 have hz:∀ {q},Z0 q↔∃o,W.heap[q]? =some o∧¬ dJ.Plain ⟨fun _=>False,uH⟩ o:=fun{q}=>by rw[Kd];exact Iff.rfl
 have hs0:(bare Z0 W).heap.size=W.heap.size:=Ma Z0 W
 have hin:∀q,¬ Z0 q→(bare Z0 W).heap[q]? =W.heap[q]?:=fun q hq=>Ux hq
 have hout:∀q,Z0 q→(bare Z0 W).heap[q]? =some (dJ.X0 q):=fun q hq=>by
  obtain⟨o,ho,_⟩:=hz.1 hq
  exact Qj hq ho
 have hos:(bare Z0 W).os=W.os∧(bare Z0 W).output=W.output∧(bare Z0 W).drawn=W.drawn∧(bare Z0 W).tape=W.tape:=⟨rfl,rfl,rfl,rfl⟩
 clear Kd
 obtain⟨W0,hW0⟩:∃w,w=bare Z0 W:=⟨_,rfl⟩
 rw[← hW0] at hs0 hin hout hos
 clear hW0
 have hcell:∀p x,W.cell? p=some x→W0.cell? p=some x:=fun p x hx=>by
  have hnz:¬ Z0 p.block:=by
   intro hzz
   obtain⟨o,ho,hno⟩:=hz.1 hzz
   unfold World.cell? at hx
   rw[ho] at hx
   cases o <;> first|exact hno trivial|cases hx
  rw[← hx]
  simp only[World.cell?,hin _ hnz]
 have hb0:b.At W0 W0.heap.size:=by
  rw[hs0]
  exact⟨h.g.lift hcell,h.m.lift hcell,h.c.lift hcell,h.ng,h.nm,h.nc,h.name⟩
 obtain⟨hF,AD⟩:=Qd W0 b hb0 hgc hd good day hg hdy
 obtain⟨n,cb,cs,w1,bit,Rm,⟨hn,D,hcl,hcb,m,hcall⟩,hback⟩:=AD []
 have ok:(⟨Frame.enter prog 3 #[b.val,.int .u8 good,.int .u8 day] .normal,[],W0⟩:dJ.Pt).Ok prog FF.fn ⟨Z0,uH⟩:=by
  refine⟨dJ.Fr.enter Kv hF _,fun c hc=>by simp at hc,⟨fun q hq=>hout q hq,fun q o hq ho=>?_⟩⟩
  rw[show(⟨Frame.enter prog 3 #[b.val,.int .u8 good,.int .u8 day] .normal,[],W0⟩:dJ.Pt).w=W0 from rfl,hin q hq] at ho
  have h1:dJ.Plain ⟨fun _=>False,uH⟩ o:=Classical.byContradiction fun hno=>hq (hz.2 ⟨o,ho,hno⟩)
  cases o <;> exact h1
 have hva:dJ.Ef ⟨Z0,uH⟩ (fun q=>W.heap[q]?) W0 W:=⟨⟨hs0.symm,fun q hq=>(hin q hq).symm,hos.1.symm,hos.2.1.symm,fun q o _ hk _=>hk⟩,hos.2.2.1.symm,hos.2.2.2.symm⟩
 have hcells:∀q o,Z0 q→W.heap[q]? =some o→∀c t f,o≠.cells c t f:=by
  rintro q o hzz ho c t f rfl
  obtain⟨o',ho',hno⟩:=hz.1 hzz
  rw[ho] at ho'
  cases ho'
  exact hno trivial
 obtain⟨_,_,_,_,_,_,_,hsz⟩:=dJ.Aq (CG _) qM (fun _ h=>h) Rm (a:=⟨_,[],W0⟩) (b:=⟨kr n cb,cs,w1⟩) rfl rfl ok W hva #[] (dJ.gU.nil _)
 have hsz1:W0.heap.size≤w1.heap.size:=hsz
 refine Xz hn ok hva hcells Rm Ty (fun g hg=>vP (F8 hg)) rfl (Wh _) hcl hcb hcall (PV:=BZ W) fun ac hac v hv σ=>?_
 obtain⟨m',hs,x,w',fr,⟨hx,τ,hpast⟩,rfl,hfn,hmode,hdef,hkind,SZ,me,hres⟩:=hback ac hac v hv σ
 refine⟨⟨fr,[],w'⟩,hs,⟨rfl,hfn,hmode,hdef,hkind⟩,fun u Ys hu1 hu2 hu3 X'=>?_⟩
 have hf3:SZ=Tryz.f3:=by
  rw[hfn,func3] at me
  exact(Option.some.inj me).symm
 subst hf3
 have hr2:=results_tmp (fn:=Tryz.f3) rfl fr.tmps prog w'
 rw[hr2] at hres
 have hv2:sF fr=x:=by
  injection hres with h1 _
 have hp2:=hpast.size
 have hp3:=hpast.os
 have V':=hpast.output
 have Wb:=hpast.block
 refine⟨hv2.trans hx,(hu3.trans hp3).trans hos.1,(X'.trans V').trans hos.2.1,?_,fun q hq=>?_⟩
 ·have:u.heap.size=w'.heap.size:=Ys
  have e:(on W0 τ).heap.size=W0.heap.size:=rfl
  omega
 ·by_cases hzz:Z0 q
  ·exact hu2 q hzz
  ·have hq0:q<W0.heap.size:=zo
   exact((hu1 q zo hzz).trans (Wb q hq0)).trans (hin q hzz)
end
end Go.Proofs.YtoldgagdgjilgaaGreat
