/- AE4 S9 LW LE LV AE5 OP -/
import Derived.Test.YthaelabgfnnebaaGreatB5
import Derived.Test.YthaelabgfnnebaaGreatG0
import Derived.Carry
import Derived.SizedLaws
import Derived.WideShapes
import Derived.ChangeShapes
import Derived.ChangeSlices
set_option maxRecDepth 100000
set_option maxHeartbeats 16000000
set_option linter.unusedVariables false
set_option linter.unusedSectionVars false
set_option linter.unusedSimpArgs false
open Go.IntKind(i64)
open Go.Lib(hid)
open Go.Proofs.Tryz
open Go.Value(int)
namespace Go.Proofs.YthaelabgfnnebaaGreat
section
open Go Go.Conc Go.ConcN Go.bX Go.Conc.Lib Go.aO Go.RowKit
attribute [local go_sem] Oper.semAt_some
variable[Inhabited aR]
theorem RG(w:World)(b:Bk)(h:b.At w w.heap.size)(hgc:b.ng≤b.gc)(hd:-9223372036854775808≤b.days∧b.days≤9223372036854775807)(good rate more:Int)(hg:0≤good∧good≤255)(hrt:0≤rate∧rate≤255)(hmo:0≤more∧more≤255):
 iK 4 #[b.val,.int .u8 good,.int .u8 rate,.int .u8 more] w (rX w):=by
 obtain⟨days,most,gA,ng,gc,g,mA,nm,mc,m,cA,nc,cc,c⟩:=b
 simp only[Bk.val,Bk.cells]
 refine jY func4 rfl zs ?_
 simp only[show Tryz.f4.ntmps=161 from rfl,List.size_toArray,List.length_cons,List.length_nil,Nat.reduceAdd,Nat.reduceSub,Array.replicate_succ,Array.replicate_zero,List.push_toArray,List.append_toArray,List.nil_append,List.cons_append]
 repeat refine aj.seq ?_
 refine aj.item ?_
 gi_wp2
 repeat refine aj.seq ?_
 refine aj.item ?_
 have Hh:=hid h
 have Pd:=hid hgc
 have W1:=hid ((h.alloc (Nat.le_refl _) (.cells #[int i64 days,int i64 most,.slice gA ng gc,.slice mA nm mc,.slice cA nc cc] 26)).more (show w.heap.size≤_ by simp):(⟨days,most,gA,ng,gc,g,mA,nm,mc,m,cA,nc,cc,c⟩:Bk).At (w.alloc (.cells #[int i64 days,int i64 most,.slice gA ng gc,.slice mA nm mc,.slice cA nc cc] 26)) (w.alloc (.cells #[int i64 days,int i64 most,.slice gA ng gc,.slice mA nm mc,.slice cA nc cc] 26)).heap.size)
 have hbx:=Whole.new w 26 #[int i64 days,int i64 most,.slice gA ng gc,.slice mA nm mc,.slice cA nc cc]
 have hB1:Below w.heap.size w (w.alloc (.cells #[int i64 days,int i64 most,.slice gA ng gc,.slice mA nm mc,.slice cA nc cc] 26)):=(Below.refl _ _).alloc (Nat.le_refl _) _
 have hs1:w.heap.size<(w.alloc (.cells #[int i64 days,int i64 most,.slice gA ng gc,.slice mA nm mc,.slice cA nc cc] 26)).heap.size:=zs
 clear h hgc
 generalize w.alloc (.cells #[int i64 days,int i64 most,.slice gA ng gc,.slice mA nm mc,.slice cA nc cc] 26)=w1 at *
 have c1:∀o,w1.cell? ⟨w.heap.size,o,none⟩=(#[int i64 days,int i64 most,.slice gA ng gc,.slice mA nm mc,.slice cA nc cc]:Array Value)[o]?:=fun o=>hbx.cell o
 have ux:=hid hbx
 clear hbx
 gi_wp2_with (gi_at_call 7;refine(Vh w1 W1.out hd).mono ?_;rintro e w2 ⟨t,rfl,ht,hb2⟩;have HT:=hid ht;clear ht;have c2:w2.cell? ⟨w.heap.size,0,none⟩=some (int i64 days):=(ux.out.below hb2 hs1).cell 0)
 all_goals have W2:=hid ((W1.out.below hb2).more hb2.size)
 all_goals have hB2:=hid (hB1.trans (hb2.mono (Nat.le_of_lt hs1)))
 all_goals have wC:=hid (ux.out.below hb2 hs1)
 all_goals clear c1 W1 ux hB1 hb2 hs1
 cases t
 ·refine aj.cond_true (by simp[Act.eval]) ?_
  have HV:=hid (kE w2)
  repeat refine aj.seq ?_
  refine aj.fU 0 zD ?_
  simp only[List.take_zero]
  refine gW rfl rfl rfl (enters_of func8 zk rfl) (Rc:=rX w2) (args:=#[]) (by simp only[List.map_toArray,List.map_cons,List.map_nil]) HV.out ?_
  rintro x wz ⟨rfl,hp⟩
  simp only[List.drop_succ_cons,List.drop_zero,Act.put,List.setIfInBounds_toArray,List.set_cons_succ,List.set_cons_zero]
  gi_wp2
  simp only[uP]
  gi_wp2
  exact⟨rfl,_,results_tmp rfl _ _ _,_,rfl,rfl,Past.of hB2.out hp⟩
 ·refine aj.cond_false (by simp[Act.eval]) ?_
  refine aj.skip ?_
  have ok:=HT.out rfl
  clear HT
  have o1:1≤days∧days≤99:=ok.days
  have o2:1≤ng∧ng≤3:=ok.bJ.1
  repeat refine aj.seq ?_
  refine aj.item ?_
  have c0:w2.cell? ⟨w.heap.size,2,none⟩=some (.slice gA ng gc):=wC.out.cell 2
  have b1:0≤good % ng∧good % ng<ng:=⟨Int.emod_nonneg _ zo,Int.emod_lt_of_pos _ zo⟩
  have b2:0≤rate % 99∧rate % 99<99:=⟨Int.emod_nonneg _ zo,Int.emod_lt_of_pos _ zo⟩
  obtain⟨gd,hgd⟩:∃gd:Nat,(gd:Int)=good % ng:=⟨(good % ng).toNat,zo⟩
  obtain⟨r,hr⟩:∃r,r=rate % 99+1:=⟨_,rfl⟩
  have e1:IntKind.i64.wrap good=good:=IntWalk.i64_in _ zo
  have e2:IntKind.i64.wrap rate=rate:=IntWalk.i64_in _ zo
  have e3:IntKind.i64.wrap (good.tmod ng)=gd:=by rw[Int.tmod_eq_emod_of_nonneg hg.1,hgd];exact IntWalk.i64_in _ zo
  have e5:IntKind.i64.wrap (rate.tmod 99)=rate % 99:=by rw[Int.tmod_eq_emod_of_nonneg hrt.1];exact IntWalk.i64_in _ zo
  have e6:IntKind.i64.wrap (rate % 99+1)=r:=by rw[hr];exact IntWalk.i64_in _ zo
  have e9:IntKind.i64.wrap more=more:=IntWalk.i64_in _ zo
  have e10:IntKind.i64.wrap (r+more)=r+more:=IntWalk.i64_in _ zo
  have z1:((ng:Int) == 0)=false:=zm
  have z3:¬ ((ng:Int)=0):=zo
  have g1:gd<ng:=zo
  have q1:1≤r∧r≤99:=zo
  have e7:=hid (show wrap64 (rate % 99+1)=r by rw[hr];exact IntWalk.wrap64_in _ zo)
  have e8:=hid hgd.symm
  clear hgd hr b1 b2
  gi_wp2
  repeat refine aj.seq ?_
  refine aj.item ?_
  gi_wp2
  obtain⟨q,hq⟩:∃q,q=min 99 (r+more):=⟨_,rfl⟩
  have q2:r≤q∧q≤99:=zo
  rw[← hq,e8.out]
  clear hq e1 e2 e3 e5 e6 e7 e8 e9 e10 z1 z3 c0 c2
  obtain⟨V,sb,hsb,hl,hkk,hby⟩:=RF ⟨days,most,gA,ng,gc,g,mA,nm,mc,m,cA,nc,cc,c⟩ ok Pd.out (RS _ ok)
  have HS:=hid (hl gd)
  have HKK:=hid hkk
  have E3:=hid hby
  clear hl hkk hby
  have B2:=hB2
  have X2:=wC
  clear hB2 wC
  repeat refine aj.seq ?_
  refine aj.item ?_
  have c0:∀o,w2.cell? ⟨w.heap.size,o,none⟩=(#[int i64 days,int i64 most,.slice gA ng gc,.slice mA nm mc,.slice cA nc cc]:Array Value)[o]?:=fun o=>X2.out.cell o
  gi_wp2_with (gi_at_call 12;refine(HS.out _ _ W2.out g1 zo).mono ?_;rintro e w4 ⟨rfl,hb4⟩)
  obtain⟨w5,wE⟩:∃x,x=w4.alloc (.cells #[int i64 (V gd r).1,int i64 (V gd r).2] 38):=⟨_,rfl⟩
  rw[← wE]
  have hb5:Below w2.heap.size w2 w5:=by rw[wE];exact hb4.alloc hb4.size _
  have S5:=hid (show Whole w5 w4.heap.size 38 #[int i64 (V gd r).1,int i64 (V gd r).2] by rw[wE];exact Whole.new _ _ _)
  have B5:=hid (B2.out.trans (hb5.mono B2.out.size))
  have W5:=hid ((W2.out.below hb5).more hb5.size)
  have X5:=hid (X2.out.below hb5 X2.out.lt)
  clear hb5 hb4 wE c0 B2 W2 X2
  repeat refine aj.seq ?_
  refine aj.item ?_
  have c0:∀o,w5.cell? ⟨w.heap.size,o,none⟩=(#[int i64 days,int i64 most,.slice gA ng gc,.slice mA nm mc,.slice cA nc cc]:Array Value)[o]?:=fun o=>X5.out.cell o
  gi_wp2_with (gi_at_call 12;refine(HS.out _ _ W5.out g1 zo).mono ?_;rintro e w6 ⟨rfl,hb6⟩)
  obtain⟨w7,hw7⟩:∃x,x=w6.alloc (.cells #[int i64 (V gd q).1,int i64 (V gd q).2] 38):=⟨_,rfl⟩
  rw[← hw7]
  have Ej:Below w5.heap.size w5 w7:=by rw[hw7];exact hb6.alloc hb6.size _
  have vf:=hid (show Whole w7 w6.heap.size 38 #[int i64 (V gd q).1,int i64 (V gd q).2] by rw[hw7];exact Whole.new _ _ _)
  have B7:=hid (B5.out.trans (Ej.mono B5.out.size))
  have W7:=hid ((W5.out.below Ej).more Ej.size)
  have X7:=hid (X5.out.below Ej X5.out.lt)
  have ju:=hid (S5.out.below Ej S5.out.lt)
  clear Ej hb6 hw7 c0 B5 W5 X5 S5 HS
  have HK:=hid fun h0=>HKK.out h0 gd r q g1 q1.1 q2.1 q2.2
  have HB1:=hid fun h0 d rA rc w hA hd hI=>E3.out h0 gd r d rA rc (fun i=>if i=gd then r else 0) w hA g1 q1 hd hI (fun i=>rfl)
  clear HKK E3
  generalize (V gd r).1=xl at *
  generalize (V gd r).2=xu at *
  generalize (V gd q).1=yl at *
  generalize (V gd q).2=yu at *
  generalize w4.heap.size=a4 at *
  generalize w6.heap.size=a6 at *
  repeat refine aj.seq ?_
  refine aj.item ?_
  rcases hsb with rfl|rfl
  ·gi_wp2
   refine aj.cond_false (by simp[Act.eval]) ?_
   refine aj.skip ?_
   repeat refine aj.seq ?_
   refine aj.item ?_
   gi_wp2
   refine aj.cond_false (by simp[Act.eval]) ?_
   refine aj.skip ?_
   repeat refine aj.seq ?_
   refine aj.item ?_
   have x0:w7.cell? ⟨a4,0,none⟩=some (int i64 xl):=ju.out.cell 0
   have x1:w7.cell? ⟨a4,1,none⟩=some (int i64 xu):=ju.out.cell 1
   have y0:w7.cell? ⟨a6,0,none⟩=some (int i64 yl):=vf.out.cell 0
   have y1:w7.cell? ⟨a6,1,none⟩=some (int i64 yu):=vf.out.cell 1
   obtain⟨k1,k2,k3,k4,k5⟩:=HK.out (by first|rfl|trivial)
   clear HK
   have d1:decide (xl<0)=false:=decide_eq_false zo
   have d2:decide (xu<xl)=false:=decide_eq_false zo
   have d3:decide (xl<yl)=false:=decide_eq_false zo
   have d4:decide (xu<yu)=false:=decide_eq_false zo
   gi_wp2
   all_goals refine aj.cond_false (by simp[Act.eval];try omega) ?_
   all_goals refine aj.skip ?_
   all_goals repeat refine aj.seq ?_
   all_goals refine aj.item ?_
   have c0:w7.cell? ⟨w.heap.size,2,none⟩=some (.slice gA ng gc):=X7.out.cell 2
   have mk:=Nt ng o2 w7
   gi_wp2
   obtain⟨w8,hw8⟩:∃x,x=w7.alloc (.cells (Array.replicate ng (int i64 0)) 3):=⟨_,rfl⟩
   rw[← hw8]
   have Uk:Below w7.heap.size w7 w8:=by rw[hw8];exact(Below.refl _ _).alloc (Nat.le_refl _) _
   have R8:Whole w8 w7.heap.size 3 (Array.replicate ng (int i64 0)):=by rw[hw8];exact Whole.new _ _ _
   have HI:=hid (Ni (r:=r) R8 g1)
   have T8:=R8.thaw gd
   have r8:∃v,w8.cell? ⟨w7.heap.size,gd,none⟩=some v:=by
    rw[R8.cell gd]
    exact⟨int i64 0,by simp[g1]⟩
   obtain⟨rv,r8⟩:=r8
   clear mk hw8 c0 vf x0 x1 y0 y1 d1 d2 d3 d4 R8
   repeat refine aj.seq ?_
   refine aj.item ?_
   gi_wp2
   obtain⟨w9,Rt⟩:∃x,x=w8.setCell ⟨w7.heap.size,gd,none⟩ (int i64 r):=⟨_,rfl⟩
   have sd:w9.heap.size=w8.heap.size:=by rw[Rt];simp
   rw[← sd,← Rt] at HI
   rw[← Rt]
   have aY:Below w7.heap.size w7 w9:=by rw[Rt];exact Uk.setCell (Nat.le_refl _) _
   have B9:=hid (B7.out.trans (aY.mono B7.out.size))
   have W9:=hid ((W7.out.below aY).more aY.size)
   have X9:=hid (X7.out.below aY X7.out.lt)
   have S9:=hid (ju.out.below aY ju.out.lt)
   clear Rt aY Uk B7 W7 X7 ju sd r8 T8
   generalize w7.heap.size=a7 at *
   clear w8 w7
   repeat refine aj.seq ?_
   refine aj.item ?_
   have c0:∀o,w9.cell? ⟨w.heap.size,o,none⟩=(#[int i64 days,int i64 most,.slice gA ng gc,.slice mA nm mc,.slice cA nc cc]:Array Value)[o]?:=fun o=>X9.out.cell o
   have x0:w9.cell? ⟨a4,0,none⟩=some (int i64 xl):=S9.out.cell 0
   gi_wp2_with (gi_at_call 9;refine(HB1.out (by first|rfl|trivial) (min xl 99) _ _ _ W9.out zo HI.out).mono ?_;rintro e w10 ⟨A,p,cost,n,rfl,hA,sJ,hz,-⟩)
   obtain⟨rfl,rfl⟩:=hz zo
   have B10:=hid (B9.out.trans (sJ.mono B9.out.size))
   have Mf:=hid ((W9.out.below sJ).more sJ.size)
   have kh:=hid (X9.out.below sJ X9.out.lt)
   have Yb:=hid (S9.out.below sJ S9.out.lt)
   have ia:=hid (cZ HI.out sJ)
   clear hz sJ B9 W9 X9 S9 HI c0 x0
   repeat refine aj.seq ?_
   refine aj.item ?_
   gi_wp2
   all_goals refine aj.cond_false (by simp[Act.eval];try omega) ?_
   all_goals refine aj.skip ?_
   all_goals repeat refine aj.seq ?_
   all_goals refine aj.item ?_
   have x0:w10.cell? ⟨a4,0,none⟩=some (int i64 xl):=Yb.out.cell 0
   have u1:IntKind.i64.wrap (xl+1)=xl+1:=IntWalk.i64_in _ zo
   gi_wp2
   by_cases hx:99<xl+1
   ·refine aj.cond_true (by simp[Act.eval,hx];try omega) ?_
    have HV:=hid (kE w10)
    repeat refine aj.seq ?_
    refine aj.fU 0 zD ?_
    simp only[List.take_zero]
    refine gW rfl rfl rfl (enters_of func8 zk rfl) (Rc:=rX w10) (args:=#[]) (by simp only[List.map_toArray,List.map_cons,List.map_nil]) HV.out ?_
    rintro x wz ⟨rfl,hp⟩
    simp only[List.drop_succ_cons,List.drop_zero,Act.put,List.setIfInBounds_toArray,List.set_cons_succ,List.set_cons_zero]
    gi_wp2
    simp only[uP]
    gi_wp2
    exact⟨rfl,_,results_tmp rfl _ _ _,_,rfl,rfl,Past.of B10.out hp⟩
   ·refine aj.cond_false (by simp[Act.eval];omega) ?_
    refine aj.skip ?_
    repeat refine aj.seq ?_
    refine aj.item ?_
    have c0:∀o,w10.cell? ⟨w.heap.size,o,none⟩=(#[int i64 days,int i64 most,.slice gA ng gc,.slice mA nm mc,.slice cA nc cc]:Array Value)[o]?:=fun o=>kh.out.cell o
    gi_wp2_with (gi_at_call 9;refine(HB1.out (by first|rfl|trivial) (xl+1) _ _ _ Mf.out zo ia.out).mono ?_;rintro e w11 ⟨A2,p2,IT,n2,rfl,hA2,lO,-,hz2⟩)
    have hn2:=hz2 zo
    have d5:decide (0<n2)=true:=decide_eq_true hn2
    have B11:=hid (B10.out.trans (lO.mono B10.out.size))
    clear c0 x0 hA hz2 lO B10 Mf kh Yb ia HB1
    have HV:=hid (kE w11)
    repeat refine aj.seq ?_
    refine aj.fU 17 zD ?_
    simp only[List.take_succ_cons,List.take_zero]
    gi_wp2
    refine gW rfl rfl rfl (enters_of func8 zk rfl) (Rc:=rX w11) (args:=#[]) (by simp only[List.map_toArray,List.map_cons,List.map_nil]) HV.out ?_
    rintro x wz ⟨rfl,hp⟩
    simp only[List.drop_succ_cons,List.drop_zero,Act.put,List.setIfInBounds_toArray,List.set_cons_succ,List.set_cons_zero]
    gi_wp2
    simp only[uP]
    gi_wp2
    exact⟨rfl,_,results_tmp rfl _ _ _,_,rfl,rfl,Past.of B11.out hp⟩
  ·gi_wp2
   refine aj.cond_false (by simp[Act.eval]) ?_
   refine aj.skip ?_
   repeat refine aj.seq ?_
   refine aj.item ?_
   gi_wp2
   refine aj.cond_true (by simp[Act.eval]) ?_
   have HV:=hid (kE w7)
   repeat refine aj.seq ?_
   refine aj.fU 3 zD ?_
   simp only[List.take_succ_cons,List.take_zero]
   gi_wp2
   refine gW rfl rfl rfl (enters_of func8 zk rfl) (Rc:=rX w7) (args:=#[]) (by simp only[List.map_toArray,List.map_cons,List.map_nil]) HV.out ?_
   rintro x wz ⟨rfl,hp⟩
   simp only[List.drop_succ_cons,List.drop_zero,Act.put,List.setIfInBounds_toArray,List.set_cons_succ,List.set_cons_zero]
   gi_wp2
   simp only[uP]
   gi_wp2
   exact⟨rfl,_,results_tmp rfl _ _ _,_,rfl,rfl,Past.of B7.out hp⟩
end
section
open Go.RowKit
section
variable{days most:Int}{gA mA cA:Option Addr}{ng gc nm mc nc cc:Nat}{g:Nat→Good}{m:Nat→Mv}{c:Nat→Ct}
end
end
section
open Go Go.Conc Go.ConcN Go.bX Go.Conc.Lib Go.aO Go.RowKit
attribute [local go_sem] Oper.semAt_some
variable[Inhabited aR]
end
section
open Go Go.Conc Go.ConcN Go.bX Go.Conc.Lib Go.aO
variable[Inhabited aR]
def Cr(W:World)(x:Value)(u:World):Prop:=x=.bool true∧u.os=W.os∧u.output=W.output∧W.heap.size≤u.heap.size∧∀q,q<W.heap.size→u.heap[q]? =W.heap[q]?
theorem Rows.lift{W W0:World}(hc:∀p x,W.cell? p=some x→W0.cell? p=some x){B size n:Nat}{A:Option Addr}{f:Nat→Nat→Value}(h:Rows W B size A n f):Rows W0 B size A n f:=fun hn=>by
 obtain⟨ad,e,hb,k⟩:=h hn
 exact⟨ad,e,hb,fun i j hi hj=>hc _ _ (k i j hi hj)⟩
theorem Wq(n:Nat):SF.room n:=fun d h=>by cases h
def SJ(W:World)(q:Nat):Prop:=∃o,W.heap[q]? =some o∧¬ dK.Plain ⟨fun _=>False,uL⟩ o
open Classical in
noncomputable def bare(Z:Nat→Prop)(W:World):World:={W with heap:=W.heap.mapIdx fun q o=>if Z q then dK.X0 q else o }
theorem Mk(Z:Nat→Prop)(W:World):(bare Z W).heap.size=W.heap.size:=by show(W.heap.mapIdx _).size=_;simp
theorem UH{Z:Nat→Prop}{W:World}{q:Nat}(hq:¬ Z q):(bare Z W).heap[q]? =W.heap[q]?:=by
 simp only[bare,Array.getElem?_mapIdx]
 cases W.heap[q]? <;> simp[hq]
theorem Qu{Z:Nat→Prop}{W:World}{q:Nat}{o:Obj}(hq:Z q)(ho:W.heap[q]? =some o):(bare Z W).heap[q]? =some (dK.X0 q):=by
 simp only[bare,Array.getElem?_mapIdx,ho]
 simp[hq]
theorem rH(TE:gB prog SF.fn)(W:World)(b:Bk)(h:b.At W W.heap.size)(hgc:b.ng≤b.gc)(hd:-9223372036854775808≤b.days∧b.days≤9223372036854775807)(good:Int)(I7:0≤good∧good≤255)(rate:Int)(I9:0≤rate∧rate≤255)(more:Int)(I8:0≤more∧more≤255):
 ∃M last o w' t',runNT prog (M+1) (solo (G (Frame.enter prog 4 #[b.val,.int .u8 good,.int .u8 rate,.int .u8 more] .normal) []) W) #[]=(.ended o w',t')∧
  runN prog M (solo (G (Frame.enter prog 4 #[b.val,.int .u8 good,.int .u8 rate,.int .u8 more] .normal) []) W)=.next last∧step prog last=.ended o w'∧Conc.Good prog (Cr W) last o w' t':=by
 obtain⟨Z0,Kp⟩:∃Z:Nat→Prop,Z=SJ W:=⟨_,rfl⟩
 have hz:∀ {q},Z0 q↔∃o,W.heap[q]? =some o∧¬ dK.Plain ⟨fun _=>False,uL⟩ o:=fun{q}=>by rw[Kp];exact Iff.rfl
 have hs0:(bare Z0 W).heap.size=W.heap.size:=Mk Z0 W
 have hin:∀q,¬ Z0 q→(bare Z0 W).heap[q]? =W.heap[q]?:=fun q hq=>UH hq
 have hout:∀q,Z0 q→(bare Z0 W).heap[q]? =some (dK.X0 q):=fun q hq=>by
  obtain⟨o,ho,_⟩:=hz.1 hq
  exact Qu hq ho
 have hos:(bare Z0 W).os=W.os∧(bare Z0 W).output=W.output∧(bare Z0 W).drawn=W.drawn∧(bare Z0 W).tape=W.tape:=⟨rfl,rfl,rfl,rfl⟩
 clear Kp
 obtain⟨W0,hW0⟩:∃w,w=bare Z0 W:=⟨_,rfl⟩
 rw[← hW0] at hs0 hin hout hos
 clear hW0
 have hcell:∀p x,W.cell? p=some x→W0.cell? p=some x:=fun p x hx=>by
  have hnz:¬ Z0 p.block:=by
   intro hzz
   obtain⟨o,ho,hno⟩:=hz.1 hzz
   unfold World.cell? at hx
   rw[ho] at hx
   cases o <;> first|exact hno trivial|cases hx
  rw[← hx]
  simp only[World.cell?,hin _ hnz]
 have hb0:b.At W0 W0.heap.size:=by
  rw[hs0]
  exact⟨h.g.lift hcell,h.m.lift hcell,h.c.lift hcell,h.ng,h.nm,h.nc,h.name⟩
 obtain⟨hF,AM⟩:=RG W0 b hb0 hgc hd good rate more I7 I9 I8
 obtain⟨n,cb,cs,w1,bit,Rv,⟨hn,D,hcl,hcb,m,hcall⟩,hback⟩:=AM []
 have ok:(⟨Frame.enter prog 4 #[b.val,.int .u8 good,.int .u8 rate,.int .u8 more] .normal,[],W0⟩:dK.Pt).Ok prog FF.fn ⟨Z0,uL⟩:=by
  refine⟨dK.Fr.enter KF hF _,fun c hc=>by simp at hc,⟨fun q hq=>hout q hq,fun q o hq ho=>?_⟩⟩
  rw[show(⟨Frame.enter prog 4 #[b.val,.int .u8 good,.int .u8 rate,.int .u8 more] .normal,[],W0⟩:dK.Pt).w=W0 from rfl,hin q hq] at ho
  have h1:dK.Plain ⟨fun _=>False,uL⟩ o:=Classical.byContradiction fun hno=>hq (hz.2 ⟨o,ho,hno⟩)
  cases o <;> exact h1
 have hva:dK.Et ⟨Z0,uL⟩ (fun q=>W.heap[q]?) W0 W:=⟨⟨hs0.symm,fun q hq=>(hin q hq).symm,hos.1.symm,hos.2.1.symm,fun q o _ hk _=>hk⟩,hos.2.2.1.symm,hos.2.2.2.symm⟩
 have hcells:∀q o,Z0 q→W.heap[q]? =some o→∀c t f,o≠.cells c t f:=by
  rintro q o hzz ho c t f rfl
  obtain⟨o',ho',hno⟩:=hz.1 hzz
  rw[ho] at ho'
  cases ho'
  exact hno trivial
 obtain⟨_,_,_,_,_,_,_,hsz⟩:=dK.AJ (C8 _) qV (fun _ h=>h) Rv (a:=⟨_,[],W0⟩) (b:=⟨kF n cb,cs,w1⟩) rfl rfl ok W hva #[] (dK.gV.nil _)
 have hsz1:W0.heap.size≤w1.heap.size:=hsz
 refine XF hn ok hva hcells Rv TE (fun g hg=>iM (Gd hg)) rfl (Wq _) hcl hcb hcall (PV:=Cr W) fun ac hac v hv σ=>?_
 obtain⟨m',hs,x,w',fr,⟨hx,τ,hpast⟩,rfl,hfn,hmode,hdef,hkind,S8,mx,hres⟩:=hback ac hac v hv σ
 refine⟨⟨fr,[],w'⟩,hs,⟨rfl,(by unfold Qg;first|exact hfn|exact .inl hfn|exact .inr (.inl hfn)|exact .inr (.inr hfn)),hmode,hdef,hkind⟩,fun u Y' hu1 hu2 hu3 YY=>?_⟩
 have hf3:S8=Tryz.f4:=by
  rw[hfn,func4] at mx
  exact(Option.some.inj mx).symm
 subst hf3
 have hr2:=results_tmp (fn:=Tryz.f4) rfl fr.tmps prog w'
 rw[hr2] at hres
 have hv2:nu fr=x:=by
  unfold nu
  rw[hfn]
  exact(Result.ok.inj hres).1
 have hp2:=hpast.size
 have hp3:=hpast.os
 have Wf:=hpast.output
 have Wl:=hpast.block
 refine⟨hv2.trans hx,(hu3.trans hp3).trans hos.1,(YY.trans Wf).trans hos.2.1,?_,fun q hq=>?_⟩
 ·have:u.heap.size=w'.heap.size:=Y'
  have e:(on W0 τ).heap.size=W0.heap.size:=rfl
  omega
 ·by_cases hzz:Z0 q
  ·exact hu2 q hzz
  ·have hq0:q<W0.heap.size:=zo
   exact((hu1 q zo hzz).trans (Wl q hq0)).trans (hin q hzz)
end
section
open Go
section
variable{H:Type}{enc:TypeId × Value→H}{w:World}{fuel:Nat}
noncomputable abbrev TR (enc:TypeId × Value→H) (w:World):Nat→TypeId→List Value→Option (DataW H × List MemPlace):=DataW.trod enc prog w 0 (fun _=>true) true
theorem c3:Tryz.prog.cellsOf 3=1:=zk
theorem c37:Tryz.prog.cellsOf 50=1:=zk
theorem c9:Tryz.prog.cellsOf 9=1:=zk
theorem c39:Tryz.prog.cellsOf 38=2:=zk
theorem c68:Tryz.prog.cellsOf 40=5:=zk
theorem c41:Tryz.prog.cellsOf 52=5:=zk
theorem c88:Tryz.prog.cellsOf 99=4:=zk
theorem c22:Tryz.prog.cellsOf 22=1:=zk
theorem c23:Tryz.prog.cellsOf 23=1:=zk
theorem c24:Tryz.prog.cellsOf 24=1:=zk
theorem c26:Tryz.prog.cellsOf 26=5:=zk
theorem gF{t:TypeId}{k:IntKind}(ht:Tryz.prog.underlying t=some (.int k)){cs:List Value}{o:Nat}{y:DataW H × List MemPlace}(h:TR enc w fuel t ((cs.drop o).take 1)=some y):∃n,cs[o]? =some (.int k n)∧(Lit.int k n).wf=true:=by
 obtain⟨n,e,_,hw⟩:=DataW.trod_int ht h
 exact⟨n,WideShapes.cell_of_cut e,hw⟩
theorem Vj{t:TypeId}(ht:Tryz.prog.underlying t=some .string){cs:List Value}{o:Nat}{y:DataW H × List MemPlace}(h:TR enc w fuel t ((cs.drop o).take 1)=some y):∃s,cs[o]? =some (.string s)∧s.size≤maxLen:=by
 obtain⟨n,e,_,hw⟩:=DataW.trod_string ht h
 exact⟨n,WideShapes.cell_of_cut e,hw⟩
theorem KE{cs:List Value}{o j n:Nat}{v:Value}(h:((cs.drop o).take n)[j]? =some v):cs[o+j]? =some v:=by
 rw[List.getElem?_take] at h
 split at h
 ·rwa[List.getElem?_drop] at h
 ·cases h
theorem vZ{cs:List Value}{o:Nat}{y:DataW H × List MemPlace}(h:TR enc w fuel 38 ((cs.drop o).take 2)=some y):∃a b,cs[o]? =some (int i64 a)∧cs[o+1]? =some (int i64 b):=by
 obtain⟨xs,n,rfl,rfl,hl,hx,hf⟩:=DataW.trod_struct underlying38 h
 have f0:TR enc w n 3 ((((cs.drop o).take 2).drop 0).take (Tryz.prog.cellsOf 3))=xs[0]?:=hf 0 _ rfl
 have f1:TR enc w n 3 ((((cs.drop o).take 2).drop 1).take (Tryz.prog.cellsOf 3))=xs[1]?:=hf 1 _ rfl
 rw[c3] at f0
 rw[c3] at f1
 have hx:xs.length=2:=hx
 rw[List.getElem?_eq_getElem zo] at f0 f1
 obtain⟨a,h0,_⟩:=gF underlying3 f0
 obtain⟨b,h1,_⟩:=gF underlying3 f1
 exact⟨a,b,KE h0,KE h1⟩
theorem Sz{cs:List Value}{y:DataW H × List MemPlace}(h:TR enc w fuel 40 cs=some y):∃g:Good,(∀j,j<5→cs[j]? =some (g.cell j))∧g.name.size≤maxLen:=by
 obtain⟨xs,n,rfl,rfl,hl,hx,hf⟩:=DataW.trod_struct underlying40 h
 have f0:TR enc w n 9 ((cs.drop 0).take (Tryz.prog.cellsOf 9))=xs[0]?:=hf 0 _ rfl
 have f1:TR enc w n 3 ((cs.drop 1).take (Tryz.prog.cellsOf 3))=xs[1]?:=hf 1 _ rfl
 have f2:TR enc w n 3 ((cs.drop 2).take (Tryz.prog.cellsOf 3))=xs[2]?:=hf 2 _ rfl
 have f3:TR enc w n 38 ((cs.drop 3).take (Tryz.prog.cellsOf 38))=xs[3]?:=hf 3 _ rfl
 rw[c9] at f0
 rw[c3] at f1
 rw[c3] at f2
 rw[c39] at f3
 have hx:xs.length=4:=hx
 rw[List.getElem?_eq_getElem zo] at f0 f1 f2 f3
 obtain⟨s,h0,hs⟩:=Vj underlying9 f0
 obtain⟨c,h1,_⟩:=gF underlying3 f1
 obtain⟨p,h2,_⟩:=gF underlying3 f2
 obtain⟨lo,hi,h3,h4⟩:=vZ f3
 refine⟨⟨s,c,p,lo,hi⟩,fun j hj=>?_,hs⟩
 rcases(by omega:j=0∨j=1∨j=2∨j=3∨j=4) with rfl|rfl|rfl|rfl|rfl <;> assumption
theorem cF{cs:List Value}{y:DataW H × List MemPlace}(h:TR enc w fuel 52 cs=some y):∃g:Mv,(∀j,j<5→cs[j]? =some (g.cell j))∧True:=by
 obtain⟨xs,n,rfl,rfl,hl,hx,hf⟩:=DataW.trod_struct underlying52 h
 have f0:TR enc w n 50 ((cs.drop 0).take (Tryz.prog.cellsOf 50))=xs[0]?:=hf 0 _ rfl
 have f1:TR enc w n 3 ((cs.drop 1).take (Tryz.prog.cellsOf 3))=xs[1]?:=hf 1 _ rfl
 have f2:TR enc w n 3 ((cs.drop 2).take (Tryz.prog.cellsOf 3))=xs[2]?:=hf 2 _ rfl
 have f3:TR enc w n 38 ((cs.drop 3).take (Tryz.prog.cellsOf 38))=xs[3]?:=hf 3 _ rfl
 rw[c37] at f0
 rw[c3] at f1
 rw[c3] at f2
 rw[c39] at f3
 have hx:xs.length=4:=hx
 rw[List.getElem?_eq_getElem zo] at f0 f1 f2 f3
 obtain⟨s,h0,_⟩:=gF underlying50 f0
 obtain⟨c,h1,_⟩:=gF underlying3 f1
 obtain⟨p,h2,_⟩:=gF underlying3 f2
 obtain⟨lo,hi,h3,h4⟩:=vZ f3
 refine⟨⟨s,c,p,lo,hi⟩,fun j hj=>?_,trivial⟩
 rcases(by omega:j=0∨j=1∨j=2∨j=3∨j=4) with rfl|rfl|rfl|rfl|rfl <;> assumption
theorem cE{cs:List Value}{y:DataW H × List MemPlace}(h:TR enc w fuel 99 cs=some y):∃g:Ct,(∀j,j<4→cs[j]? =some (g.cell j))∧True:=by
 obtain⟨xs,n,rfl,rfl,hl,hx,hf⟩:=DataW.trod_struct underlying99 h
 have f0:TR enc w n 3 ((cs.drop 0).take (Tryz.prog.cellsOf 3))=xs[0]?:=hf 0 _ rfl
 have f1:TR enc w n 3 ((cs.drop 1).take (Tryz.prog.cellsOf 3))=xs[1]?:=hf 1 _ rfl
 have f2:TR enc w n 38 ((cs.drop 2).take (Tryz.prog.cellsOf 38))=xs[2]?:=hf 2 _ rfl
 rw[c3] at f0
 rw[c3] at f1
 rw[c39] at f2
 have hx:xs.length=3:=hx
 rw[List.getElem?_eq_getElem zo] at f0 f1 f2
 obtain⟨s,h0,_⟩:=gF underlying3 f0
 obtain⟨c,h1,_⟩:=gF underlying3 f1
 obtain⟨lo,hi,h3,h4⟩:=vZ f2
 refine⟨⟨s,c,lo,hi⟩,fun j hj=>?_,trivial⟩
 rcases(by omega:j=0∨j=1∨j=2∨j=3) with rfl|rfl|rfl|rfl <;> assumption
theorem NJ{α:Type}[Inhabited α]{t e:TypeId}{size:Nat}(ht:Tryz.prog.underlying t=some (.slice e))(hc:Tryz.prog.cellsOf e=size)(hpos:0<size)(cell:α→Nat→Value)(Q:α→Prop)
 (hel:∀ (n:Nat) (cs:List Value) (y:DataW H × List MemPlace),TR enc w n e cs=some y→∃a,(∀j,j<size→cs[j]? =some (cell a j))∧Q a){cs:List Value}{x:DataW H × List MemPlace}(h:TR enc w fuel t cs=some x):
 ∃ (A:Option Addr) (len cap:Nat) (f:Nat→α),cs=[.slice A len cap]∧len≤cap∧cap≤maxLen∧Rows w w.heap.size size A len (fun i=>cell (f i))∧∀i,i<len→Q (f i):=by
 rcases DataW.trod_slice ht h with⟨rfl,_⟩|⟨a,len,cap,elems,rest,n,_,rfl,rfl,hb,hl,hm,hlen,xF,_,_⟩
 ·exact⟨none,0,0,fun _=>default,rfl,Nat.le_refl _,Nat.zero_le _,fun h=>absurd h zo,fun i hi=>absurd hi zo⟩
 have each:∀i,∃b:α,i<len→(a.block<w.heap.size∧∀j,j<size→w.cell? (a.add (i * size+j))=some (cell b j))∧Q b:=fun i=>by
  by_cases hi:i<len
  ·have h1:=xF i hi
   rw[List.getElem?_eq_getElem zo,Option.bind_eq_some_iff,hc] at h1
   obtain⟨cs',h2,h3⟩:=h1
   obtain⟨b,h4,h5⟩:=hel n cs' _ h3
   have hblk:=World.cells?_block h2 hpos
   obtain⟨_,_,h6⟩:=World.cells?_some h2
   refine⟨b,fun _=>⟨⟨by rwa[aJ] at hblk,fun j hj=>?_⟩,h5⟩⟩
   rw[← pJ,h6 j hj,h4 j hj]
  ·exact⟨default,fun h=>absurd h hi⟩
 obtain⟨f,hf⟩:=Classical.axiomOfChoice each
 exact⟨some a,len,cap,f,rfl,hl,hm,fun hn=>⟨a,rfl,(hf 0 hn).1.1,fun i j hi hj=>(hf i hi).1.2 j hj⟩,fun i hi=>(hf i hi).2⟩
instance:Inhabited Good:=⟨⟨.empty,0,0,0,0⟩⟩
instance:Inhabited Mv:=⟨⟨0,0,0,0,0⟩⟩
instance:Inhabited Ct:=⟨⟨0,0,0,0⟩⟩
theorem CR{n:Int}(h:(Lit.int .i64 n).wf=true):-9223372036854775808≤n∧n≤9223372036854775807:=by
 simp[Lit.wf,IntKind.min,IntKind.max,IntKind.signed,IntKind.bits] at h
 omega
theorem vY{α:Type}[Inhabited α]{t e:TypeId}{size:Nat}(ht:Tryz.prog.underlying t=some (.slice e))(hc:Tryz.prog.cellsOf e=size)(hpos:0<size)(cell:α→Nat→Value)(Q:α→Prop)
 (hel:∀ (n:Nat) (cs:List Value) (y:DataW H × List MemPlace),TR enc w n e cs=some y→∃a,(∀j,j<size→cs[j]? =some (cell a j))∧Q a){cs:List Value}{o:Nat}{x:DataW H × List MemPlace}(h:TR enc w fuel t ((cs.drop o).take 1)=some x):
 ∃ (A:Option Addr) (len cap:Nat) (f:Nat→α),cs[o]? =some (.slice A len cap)∧len≤cap∧cap≤maxLen∧Rows w w.heap.size size A len (fun i=>cell (f i))∧∀i,i<len→Q (f i):=by
 obtain⟨A,len,cap,f,e1,h1⟩:=NJ ht hc hpos cell Q hel h
 exact⟨A,len,cap,f,WideShapes.cell_of_cut e1,h1⟩
theorem NI{v:Value}{d:DataW H}{ps:List MemPlace}{base:Nat}(hv:Value.okWide prog w .any base 26 v)(h:DataW.Trod enc prog w 0 (fun _=>true) true 26 v d ps):
 ∃b:Bk,v=b.val∧b.At w w.heap.size∧b.ng≤b.gc∧-9223372036854775808≤b.days∧b.days≤9223372036854775807:=by
 obtain⟨cs,rfl,hsz⟩:=WideShapes.okWide_struct underlying26 hv
 rw[c26] at hsz
 obtain⟨fuel,h⟩:=h
 obtain⟨xs,n,rfl,hx2,hl,hx,hf⟩:=DataW.trod_struct underlying26 h
 have f0:TR enc w n 3 ((cs.toList.drop 0).take (Tryz.prog.cellsOf 3))=xs[0]?:=hf 0 _ rfl
 have f1:TR enc w n 3 ((cs.toList.drop 1).take (Tryz.prog.cellsOf 3))=xs[1]?:=hf 1 _ rfl
 have f2:TR enc w n 22 ((cs.toList.drop 2).take (Tryz.prog.cellsOf 22))=xs[2]?:=hf 2 _ rfl
 have f3:TR enc w n 23 ((cs.toList.drop 3).take (Tryz.prog.cellsOf 23))=xs[3]?:=hf 3 _ rfl
 have f4:TR enc w n 24 ((cs.toList.drop 4).take (Tryz.prog.cellsOf 24))=xs[4]?:=hf 4 _ rfl
 rw[c3] at f0
 rw[c3] at f1
 rw[c22] at f2
 rw[c23] at f3
 rw[c24] at f4
 have hx:xs.length=5:=hx
 rw[List.getElem?_eq_getElem zo] at f0 f1 f2 f3 f4
 obtain⟨days,h0,hd⟩:=gF underlying3 f0
 obtain⟨most,h1,_⟩:=gF underlying3 f1
 obtain⟨gA,ng,gc,g,h2,hgc,hgm,hg,hgn⟩:=vY underlying22 c68 zD Good.cell (fun g=>g.name.size≤maxLen) (fun _ _ _ h=>Sz h) f2
 obtain⟨mA,nm,mc,m,h3,hmc,hmm,hm,_⟩:=vY underlying23 c41 zD Mv.cell (fun _=>True) (fun _ _ _ h=>cF h) f3
 obtain⟨cA,nc,cc,c,h4,hcc,hcm,hc,_⟩:=vY underlying24 c88 zD Ct.cell (fun _=>True) (fun _ _ _ h=>cE h) f4
 refine⟨⟨days,most,gA,ng,gc,g,mA,nm,mc,m,cA,nc,cc,c⟩,?_,⟨hg,hm,hc,by show ng≤maxLen;omega,by show nm≤maxLen;omega,by show nc≤maxLen;omega,hgn⟩,hgc,CR hd⟩
 obtain⟨L⟩:=cs
 simp only[List.size_toArray] at hsz
 match L,hsz with
 | [a0,a1,a2,a3,a4],_=>
   simp only[List.getElem?_cons_zero,List.getElem?_cons_succ,Option.some.injEq] at h0 h1 h2 h3 h4
   subst h0;subst h1;subst h2;subst h3;subst h4
   rfl
end
end
end Go.Proofs.YthaelabgfnnebaaGreat
