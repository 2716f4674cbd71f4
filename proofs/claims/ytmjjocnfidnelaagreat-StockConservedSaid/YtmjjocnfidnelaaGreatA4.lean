/- S9 -/
import Derived.Test.YtmjjocnfidnelaaGreatA3
set_option maxRecDepth 100000
set_option maxHeartbeats 16000000
set_option linter.unusedVariables false
set_option linter.unusedSectionVars false
open Go.IntKind(i64)
open Go.Lib(hid)
open Go.Proofs.Tryz
open Go.Value(int)
namespace Go.Proofs.YtmjjocnfidnelaaGreat
section
open Go.RowKit
section
variable{days most:Int}{gA mA cA:Option Addr}{ng gc nm mc nc cc:Nat}{g:Nat→Good}{m:Nat→Mv}{c:Nat→Ct}
def Rq(w0:World)(l:List Code)(a:Act)(w:World):Prop:=Below w0.heap.size w0 w∧(((∃r,l=TG :: r)∧a.tmps.size=202∧a.defers=[])∨
 (l=[Kg]∧∃ng G left low first B1 B2 E1 E2 F1 r1 r2 t1 t2 p1 nf P,ZB a w ng G left low first B1 B2 E1 E2 F1 r1 r2 t1 t2 p1 nf P))
theorem TI(Z6:LK)(w:World)(h:(⟨days,most,gA,ng,gc,g,mA,nm,mc,m,cA,nc,cc,c⟩:Bk).At w w.heap.size)(hgc:ng≤gc)(hd:-9223372036854775808≤days∧days≤9223372036854775807)
 (pA:Option Addr)(np pc:Nat)(ps:Nat→Int)(hp:wP w w.heap.size pA np ps)(hnp:np≤maxLen)(bits good:Int)(hg:0≤good∧good≤255):
 ∃body,Tryz.f3.body=some body∧aG prog (Rq w) [body] {tmps:=#[.agg #[int i64 days,int i64 most,.slice gA ng gc,.slice mA nm mc,.slice cA nc cc],.slice pA np pc,.int .u8 bits,.int .u8 good] ++ Array.replicate (202 - 4) undef,defers:=[] } w:=by
 refine⟨_,rfl,?_⟩
 simp only[Nat.reduceSub,Array.replicate_succ,Array.replicate_zero,List.push_toArray,List.append_toArray,List.nil_append,List.cons_append]
 repeat refine aG.seq ?_
 refine aG.item ?_
 gi_wp2
 repeat refine aG.seq ?_
 refine aG.item ?_
 have Hh:=hid h
 have Hp:=hid hp
 have HP:=hid Z6
 have R0:=hid hgc
 have W1:=hid ((h.alloc (Nat.le_refl _) (.cells #[int i64 days,int i64 most,.slice gA ng gc,.slice mA nm mc,.slice cA nc cc] 26)).more (show w.heap.size≤_ by simp):(⟨days,most,gA,ng,gc,g,mA,nm,mc,m,cA,nc,cc,c⟩:Bk).At (w.alloc (.cells #[int i64 days,int i64 most,.slice gA ng gc,.slice mA nm mc,.slice cA nc cc] 26)) (w.alloc (.cells #[int i64 days,int i64 most,.slice gA ng gc,.slice mA nm mc,.slice cA nc cc] 26)).heap.size)
 have hbx:=Whole.new w 26 #[int i64 days,int i64 most,.slice gA ng gc,.slice mA nm mc,.slice cA nc cc]
 have hB1:Below w.heap.size w (w.alloc (.cells #[int i64 days,int i64 most,.slice gA ng gc,.slice mA nm mc,.slice cA nc cc] 26)):=(Below.refl _ _).alloc (Nat.le_refl _) _
 have hs1:w.heap.size<(w.alloc (.cells #[int i64 days,int i64 most,.slice gA ng gc,.slice mA nm mc,.slice cA nc cc] 26)).heap.size:=zs
 clear h hp Z6 hgc
 generalize w.alloc (.cells #[int i64 days,int i64 most,.slice gA ng gc,.slice mA nm mc,.slice cA nc cc] 26)=w1 at *
 have c1:∀o,w1.cell? ⟨w.heap.size,o,none⟩=(#[int i64 days,int i64 most,.slice gA ng gc,.slice mA nm mc,.slice cA nc cc]:Array Value)[o]?:=fun o=>hbx.cell o
 have S0:=hid hbx
 clear hbx
 gi_wp2_with (gi_at_call 4;refine(Xd w1 W1.out hd).mono ?_;rintro e w2 ⟨t,rfl,ht,hb2⟩;have HT:=hid ht;clear ht)
 have W2:=hid ((W1.out.below hb2).more hb2.size)
 have HB:=S0.out.below hb2 hs1
 have da:=hid HB
 have hB2:=hid (hB1.trans (hb2.mono (Nat.le_of_lt hs1)))
 have hs2:w.heap.size<w2.heap.size:=Nat.lt_of_lt_of_le hs1 hb2.size
 clear c1 HB W1 S0 hB1 hb2 hs1
 cases t
 ·refine aG.cond_true rfl ?_
  exact aG.stop ⟨hB2.out,.inl ⟨⟨_,rfl⟩,rfl,rfl⟩⟩
 refine aG.cond_false rfl ?_
 refine aG.skip ?_
 have ok:=HT.out rfl
 have VX:=hid ok
 clear ok HT
 repeat refine aG.seq ?_
 refine aG.item ?_
 have c2:∀o,w2.cell? ⟨w.heap.size,o,none⟩=(#[int i64 days,int i64 most,.slice gA ng gc,.slice mA nm mc,.slice cA nc cc]:Array Value)[o]?:=fun o=>da.out.cell o
 gi_wp2_with (gi_at_call 6;refine(Ul VX.out w2 W2.out pA np pc ps ?_ hnp bits).mono ?_;exact⟨(Hp.out.1.below hB2.out).more (Nat.le_of_lt hs2),Hp.out.2⟩;rintro e w3 ⟨v1,v2,v3,l1,l2,l3,rfl,hpast,ho1,ho2,ho3,hb3⟩;obtain⟨A1,p1,e1⟩:=dD ho1;obtain⟨A2,p2,e2⟩:=dD ho2;obtain⟨A3,p3,e3⟩:=dD ho3;subst e1;subst e2;subst e3;have S6:=hid ho1;have S8:=hid ho2;have S':=hid ho3;have lR:=hid hpast;clear ho1 ho2 ho3 hpast)
 have hpb:=Whole.new w3 32 #[.slice A1 l1.length p1,.slice A2 l2.length p2,.slice A3 l3.length p3]
 have hw4:Below w2.heap.size w2 (w3.alloc (.cells #[.slice A1 l1.length p1,.slice A2 l2.length p2,.slice A3 l3.length p3] 32)):=hb3.alloc hb3.size _
 have hr1:=aL S6.out (.cells #[.slice A1 l1.length p1,.slice A2 l2.length p2,.slice A3 l3.length p3] 32)
 have hr2:=aL S8.out (.cells #[.slice A1 l1.length p1,.slice A2 l2.length p2,.slice A3 l3.length p3] 32)
 have hr3:=aL S'.out (.cells #[.slice A1 l1.length p1,.slice A2 l2.length p2,.slice A3 l3.length p3] 32)
 have hs3:w2.heap.size≤w3.heap.size:=hb3.size
 have fR:w3.heap.size<(w3.alloc (.cells #[.slice A1 l1.length p1,.slice A2 l2.length p2,.slice A3 l3.length p3] 32)).heap.size:=zs
 clear c2 S6 S8 S' hb3
 generalize w3.alloc (.cells #[.slice A1 l1.length p1,.slice A2 l2.length p2,.slice A3 l3.length p3] 32)=w4 at *
 have W4:=hid ((W2.out.below hw4).more hw4.size)
 have rK:=da.out.below hw4 hs2
 have HR1:=hid hr1
 have HR2:=hid hr2
 have HR3:=hid hr3
 have Au:=hid (hB2.out.trans (hw4.mono (Nat.le_of_lt hs2)))
 have Fs:=hid hpb
 have db:=hid rK
 have q1:∀o,w4.cell? ⟨w.heap.size,o,none⟩=(#[int i64 days,int i64 most,.slice gA ng gc,.slice mA nm mc,.slice cA nc cc]:Array Value)[o]?:=fun o=>db.out.cell o
 have q2:∀o,w4.cell? ⟨w3.heap.size,o,none⟩=(#[.slice A1 l1.length p1,.slice A2 l2.length p2,.slice A3 l3.length p3]:Array Value)[o]?:=fun o=>Fs.out.cell o
 have hpl:CallsIn FF 0 prog 7 #[.agg #[int i64 days,int i64 most,.slice gA ng gc,.slice mA nm mc,.slice cA nc cc],.slice A1 l1.length p1,.slice A2 l2.length p2,.slice A3 l3.length p3] w4 (wM ⟨days,most,gA,ng,gc,g,mA,nm,mc,m,cA,nc,cc,c⟩ l1 l2 l3 w4):=
  HP.out _ l1 l2 l3 w4 VX.out R0.out lR.out W4.out A1 A2 A3 p1 p2 p3 (aT HR1.out) (aT HR2.out) (aT HR3.out)
 have ZH:=hid hpl
 clear hr1 hr2 hr3 hpb rK hw4 hpl W2 da
 repeat refine aG.seq ?_
 refine aG.item ?_
 gi_wp2_with (gi_at_call 7;refine ZH.out.mono ?_;rintro e w5 ⟨B1,r1,B2,r2,rfl,hI1,hI2,hb5⟩;have HI1:=hid hI1;have HI2:=hid hI2;clear hI1 hI2)
 have uU:=VX.out.dn.1
 simp only at uU
 obtain⟨LF,te⟩:=uU
 have hnm:=VX.out.moves.1
 simp only at hnm
 have hn1:=lR.out.n1
 have hn2:=lR.out.n2
 simp only at hn1 hn2
 have xv:=hid hn1
 have Nw:=hid hn2
 have Hs4:=hb5.size
 have W5:=hid ((W4.out.below hb5).more hb5.size)
 have oY:=hid (db.out.below hb5 (Nat.lt_of_lt_of_le hs2 (Nat.le_of_lt (Nat.lt_of_le_of_lt hs3 fR))))
 have pb:=hid (Fs.out.below hb5 fR)
 have VY:=hid (own_below HR1.out hb5)
 have DS:=hid (own_below HR2.out hb5)
 have oE:=hid (own_below HR3.out hb5)
 have Dw:=hid (Au.out.trans (hb5.mono zo))
 have hs5:w.heap.size<w3.heap.size∧w3.heap.size<w5.heap.size:=⟨zo,zo⟩
 clear q1 q2 hn1 hn2 db Fs HR1 HR2 HR3 Au hb5 W4 ZH hs2 hs3 fR Hs4
 have q1:∀o,w5.cell? ⟨w.heap.size,o,none⟩=(#[int i64 days,int i64 most,.slice gA ng gc,.slice mA nm mc,.slice cA nc cc]:Array Value)[o]?:=fun o=>oY.out.cell o
 have q2:∀o,w5.cell? ⟨w3.heap.size,o,none⟩=(#[.slice A1 l1.length p1,.slice A2 l2.length p2,.slice A3 l3.length p3]:Array Value)[o]?:=fun o=>pb.out.cell o
 repeat refine aG.seq ?_
 refine aG.item ?_
 gi_wp2
 repeat refine aG.seq ?_
 refine aG.cond_false rfl ?_
 refine aG.skip ?_
 obtain⟨hg1,hg2⟩:=hg
 have hgz:¬ (ng:Int)=0:=zo
 have Kp:((ng:Int) == 0)=false:=by simpa using hgz
 have hgw:IntKind.i64.wrap (good.tmod ng)=good % ng:=by rw[Int.tmod_eq_emod_of_nonneg hg1];have:=Int.emod_nonneg good hgz;have:=Int.emod_lt_of_pos good (show 0<(ng:Int) by omega);exact IntWalk.i64_in _ zo
 repeat refine aG.seq ?_
 refine aG.item ?_
 gi_wp2
 clear hgw hgz Kp
 obtain⟨G,hG⟩:∃G:Nat,good % (ng:Int)=(G:Int):=⟨(good % (ng:Int)).toNat,by have:=Int.emod_nonneg good (show(ng:Int)≠0 by omega);omega⟩
 have H':G<ng:=by have:=Int.emod_lt_of_pos good (show 0<(ng:Int) by omega);omega
 simp only[hG]
 clear hG hg1 hg2
 obtain⟨a1,ha1,-⟩:=aT VY.out (show 0<l1.length by rw[xv.out];omega)
 subst ha1
 have k1:w5.cell? (a1.add G)=some (int i64 (l1.getD G 0)):=Ints.at_ (aT VY.out) (by rw[xv.out];exact H')
 have k2:(G:Int)<(l1.length:Int):=by rw[xv.out];omega
 have k3:(0:Int)≤(G:Int):=Int.natCast_nonneg _
 have k4:=xL lR.out.b1 G
 obtain⟨k4,k5⟩:=k4
 repeat refine aG.seq ?_
 refine aG.item ?_
 gi_wp2
 generalize hn0:l1.getD G 0=n0 at *
 have S5:=hid hn0
 clear hn0 k1
 repeat refine aG.seq ?_
 refine aG.item ?_
 gi_wp2
 repeat refine aG.seq ?_
 refine aG.item ?_
 gi_wp2
 have hbB:=xL lR.out.b2
 have Hb2:=hid hbB
 have HI3:=hid (aT oE.out)
 have Rj:=hid (aT DS.out)
 have hl3:l3.length≤maxLen:=by have:=XW oE.out;exact this
 have mz:∀k,mX ⟨days,most,gA,ng,gc,g,mA,nm,mc,m,cA,nc,cc,c⟩ l2 l3 G k=mX ⟨days,most,gA,ng,gc,g,mA,nm,mc,m,cA,nc,cc,c⟩ l2 l3 G k:=fun _=>rfl
 clear mz hbB
 gi_loopw [15,14] (fun i n wr=>∃k:Nat,k≤nm∧i=int i64 k∧n=int i64 (n0+mX ⟨days,most,gA,ng,gc,g,mA,nm,mc,m,cA,nc,cc,c⟩ l2 l3 G k)∧Below w5.heap.size w5 wr) (fun i _ _=>nm - (intOf i).toNat)
 case atStart=>refine⟨0,Nat.zero_le _,rfl,?_,Below.refl _ _⟩;rw[C8,← S5.out,List.getD_eq_getElem?_getD,Int.add_zero]
 case round=>
  obtain⟨k,hk,rfl,rfl,hb⟩:=hrel
  have q1:∀o,wr.cell? ⟨w.heap.size,o,none⟩=(#[int i64 days,int i64 most,.slice gA ng gc,.slice mA nm mc,.slice cA nc cc]:Array Value)[o]?:=fun o=>(oY.out.below hb zo).cell o
  have q2:∀o,wr.cell? ⟨w3.heap.size,o,none⟩=(#[.slice (some a1) l1.length p1,.slice A2 l2.length p2,.slice A3 l3.length p3]:Array Value)[o]?:=fun o=>(pb.out.below hb zo).cell o
  have hsz:w5.heap.size≤wr.heap.size:=hb.size
  have z1:w.heap.size<wr.heap.size:=zo
  have z2:w3.heap.size<wr.heap.size:=zo
  by_cases hlt:k<nm
  ·obtain⟨am,qf,-⟩:=W5.out.m (show 0<nm by omega)
   simp only at qf
   subst qf
   have hr:=(W5.out.m.below hb).row hlt
   have c0:wr.cell? (am.add (k * 5))=some (int i64 (m k).kind):=hr.2 0 zD
   have c1:wr.cell? ⟨(am.add (k * 5)).block,(am.add (k * 5)).off+1,none⟩=some (int i64 (m k).good):=hr.2 1 zD
   have c2:wr.cell? ⟨(am.add (k * 5)).block,(am.add (k * 5)).off+2,none⟩=some (int i64 (m k).day):=hr.2 2 zD
   have c3:wr.cell? ⟨(am.add (k * 5)).block,(am.add (k * 5)).off+3,none⟩=some (int i64 (m k).lo):=hr.2 3 zD
   have c4:wr.cell? ⟨(am.add (k * 5)).block,(am.add (k * 5)).off+4,none⟩=some (int i64 (m k).hi):=hr.2 4 zD
   obtain⟨a2,ha2,-⟩:=Rj.out (show 0<l2.length by rw[Nw.out];omega)
   subst ha2
   have d2:wr.cell? (a2.add k)=some (int i64 (l2.getD k 0)):=Ints.at_ (Rj.out.below hb) (by rw[Nw.out];exact hlt)
   have e2:(k:Int)<(l2.length:Int):=by rw[Nw.out];omega
   have e3:(0:Int)≤(k:Int):=Int.natCast_nonneg _
   have hbd:=yM (b:=⟨days,most,gA,ng,gc,g,some am,nm,mc,m,cA,nc,cc,c⟩) (l3:=l3) (g:=G) Hb2.out k
   obtain⟨bd1,bd2⟩:=hbd
   have hb2:=Hb2.out k
   obtain⟨GS,GW⟩:=hb2
   have IS:a2.block<wr.heap.size:=by have:=(Ints.at_ (Rj.out.below hb) (k:=k) (by rw[Nw.out];exact hlt));exact Nat.lt_of_lt_of_le (by obtain⟨x,hx,hl,-⟩:=Rj.out (show 0<l2.length by rw[Nw.out];omega);cases hx;exact hl) hsz
   have aac:(a2.add k).block<wr.heap.size:=by rw[aD];exact IS
   clear hr
   gi_wp2_with (gi_at_call 8;refine(Mi _ _ _ (fun i=>l3.getD i 0) k w5.heap.size _ ?_ hl3).mono ?_;exact(HI3.out.below hb).alloc hsz _;rintro e w' ⟨rfl,rfl⟩)
   go_ways
   ·refine⟨⟨k+1,zo,rfl,by rw[uE (.inl (by assumption))],bw⟩,?_⟩
    simp[intOf];omega
   ·rename_i hh
    refine⟨⟨k+1,zo,rfl,by rw[uE (.inr ((lS _ _).1 (by simpa using hh)))],bw⟩,?_⟩
    simp[intOf];omega
   ·rename_i hgd hh hk0
    have hx:=uD (b:=⟨days,most,gA,ng,gc,g,some am,nm,mc,m,cA,nc,cc,c⟩) (l2:=l2) (l3:=l3) (g:=G) (k:=k) hgd (fun e=>by have:=(lS l3 k).2 e;simp at this;rw[this] at hh;cases hh) (.inl hk0)
    rw[List.getD_eq_getElem?_getD] at hx GS GW
    refine⟨⟨k+1,zo,rfl,by rw[hx,IntWalk.wrap64_in _ zo,Int.add_assoc],bw⟩,?_⟩
    simp[intOf];omega
   ·rename_i hgd hh hk0 hk4
    have hx:=uD (b:=⟨days,most,gA,ng,gc,g,some am,nm,mc,m,cA,nc,cc,c⟩) (l2:=l2) (l3:=l3) (g:=G) (k:=k) hgd (fun e=>by have:=(lS l3 k).2 e;simp at this;rw[this] at hh;cases hh) (.inr (by simpa using hk4))
    rw[List.getD_eq_getElem?_getD] at hx GS GW
    refine⟨⟨k+1,zo,rfl,by rw[hx,IntWalk.wrap64_in _ zo,Int.add_assoc],bw⟩,?_⟩
    simp[intOf];omega
   ·rename_i hgd hh hk0 hk4
    have hx:=yN (b:=⟨days,most,gA,ng,gc,g,some am,nm,mc,m,cA,nc,cc,c⟩) (l2:=l2) (l3:=l3) (g:=G) (k:=k) hgd (fun e=>by have:=(lS l3 k).2 e;simp at this;rw[this] at hh;cases hh) (fun e=>by rcases e with e|e;exact hk0 e;have e:(m k).kind=4:=e;rw[e] at hk4;cases hk4)
    rw[List.getD_eq_getElem?_getD] at hx GS GW
    refine⟨⟨k+1,zo,rfl,by rw[hx,IntWalk.wrap64_in _ zo];congr 1;omega,bw⟩,?_⟩
    simp[intOf];omega
  ·obtain rfl:nm=k:=zo
   gi_wp2
   clear k2 k3
   generalize hn1:n0+mX ⟨days,most,gA,ng,gc,g,mA,nm,mc,m,cA,nc,cc,c⟩ l2 l3 G nm=n1 at *
   have Fl:=hid hn1
   clear hn1
   repeat refine aG.seq ?_
   refine aG.item ?_
   gi_wp2
   repeat refine aG.seq ?_
   refine aG.item ?_
   gi_wp2
   repeat refine aG.seq ?_
   refine aG.item ?_
   gi_wp2
   repeat refine aG.seq ?_
   refine aG.item ?_
   gi_wp2
   have hC0:=dG.start ⟨days,most,gA,ng,gc,g,mA,nm,mc,m,cA,nc,cc,c⟩ l2 l3 (X:=wr.heap.size) (w1:=wr) (wx:=wr.alloc (.cells #[int i64 days,int i64 most,.slice gA ng gc,.slice none 0 0,.slice none 0 0] 26)) ((Below.refl _ _).alloc (Nat.le_refl _) _) (Whole.new _ _ _)
   have HC0:=hid hC0
   clear hC0
   generalize wr.alloc (.cells #[int i64 days,int i64 most,.slice gA ng gc,.slice none 0 0,.slice none 0 0] 26)=w6 at *
   have W7:=hid ((W5.out.below hb).more hsz)
   obtain⟨wp,rfl⟩:∃wp:World,wp=wr:=⟨_,rfl⟩
   have tj:=HI3.out.below hb
   have HI4:=hid tj
   have Sf:=hid (Rj.out.below hb)
   clear tj
   repeat refine aG.seq ?_
   refine aG.item ?_
   try gi_wp2
   gi_loopw [19,18] (fun i mv wl=>∃ (kk:Nat) (vM:Value),kk≤nm∧i=int i64 kk∧Hid (dG ⟨days,most,gA,ng,gc,g,mA,nm,mc,m,cA,nc,cc,c⟩ l2 l3 wp.heap.size wp wl vM vM mv kk kk)) (fun i _ _=>nm - (intOf i).toNat)
   case atStart=>exact⟨0,_,Nat.zero_le _,rfl,HC0⟩
   case round=>
    obtain⟨kk,vM,hkk,rfl,hC⟩:=hrel
    have hlX:=hC.out.box.lt
    have q1w:=q1
    have q2w:=q2
    clear q1 q2
    have q1:∀o,wr.cell? ⟨w.heap.size,o,none⟩=(#[int i64 days,int i64 most,.slice gA ng gc,.slice mA nm mc,.slice cA nc cc]:Array Value)[o]?:=fun o=>(hC.out.below.cell (p:=⟨w.heap.size,o,none⟩) z1).trans (q1w o)
    have q2:∀o,wr.cell? ⟨w3.heap.size,o,none⟩=(#[.slice (some a1) l1.length p1,.slice A2 l2.length p2,.slice A3 l3.length p3]:Array Value)[o]?:=fun o=>(hC.out.below.cell (p:=⟨w3.heap.size,o,none⟩) z2).trans (q2w o)
    have y1:w.heap.size<wr.heap.size:=zo
    have y2:w3.heap.size<wr.heap.size:=zo
    by_cases hlt:kk<nm
    ·gi_wp2_with (gi_at_call 8;refine(Mi _ _ _ (fun i=>l3.getD i 0) kk w5.heap.size _ (HI4.out.below (hC.out.below.mono hsz)) hl3).mono ?_;rintro e w' ⟨rfl,rfl⟩)
     go_ways
     ·rename_i hh
      have hin:¬ (kk:Int)∈l3:=fun e=>by have:=(lS l3 kk).2 e;simp at this;rw[this] at hh;cases hh
      obtain⟨am,qf,aat,-⟩:=W7.out.m (show 0<nm by omega)
      simp only at qf
      subst qf
      have hr:=W7.out.m.row hlt
      have c0:wp.cell? (am.add (kk * 5))=some (int i64 (m kk).kind):=hr.2 0 zD
      have c1:wp.cell? ⟨(am.add (kk * 5)).block,(am.add (kk * 5)).off+1,none⟩=some (int i64 (m kk).good):=hr.2 1 zD
      have c2:wp.cell? ⟨(am.add (kk * 5)).block,(am.add (kk * 5)).off+2,none⟩=some (int i64 (m kk).day):=hr.2 2 zD
      have c3:wp.cell? ⟨(am.add (kk * 5)).block,(am.add (kk * 5)).off+3,none⟩=some (int i64 (m kk).lo):=hr.2 3 zD
      have c4:wp.cell? ⟨(am.add (kk * 5)).block,(am.add (kk * 5)).off+4,none⟩=some (int i64 (m kk).hi):=hr.2 4 zD
      have hab:(am.add (kk * 5)).block<wp.heap.size:=by rw[aD];exact hr.1
      clear hr
      obtain⟨a2,ha2,aas,-⟩:=Sf.out (show 0<l2.length by rw[Nw.out];omega)
      subst ha2
      have d2:wp.cell? (a2.add kk)=some (int i64 (l2.getD kk 0)):=Ints.at_ Sf.out (by rw[Nw.out];exact hlt)
      obtain⟨v2,hv2⟩:∃v2,v2=l2.getD kk 0:=⟨_,rfl⟩
      rw[← hv2] at d2
      have de:=hid hv2
      clear hv2
      have e2:(kk:Int)<(l2.length:Int):=by rw[Nw.out];omega
      have e3:(0:Int)≤(kk:Int):=Int.natCast_nonneg _
      have e4:(kk:Int)<(nm:Int):=zo
      have hlen:=nS l3 kk
      have sW:∀ (w':World) (vM' mv':Value) (k1 k2:Nat),dG ⟨days,most,gA,ng,gc,g,some am,nm,mc,m,cA,nc,cc,c⟩ l2 l3 wp.heap.size wp w' vM vM' mv' k1 k2→(w'.cell? ⟨wp.heap.size,3,none⟩=some vM∧w'.cell? ⟨w.heap.size,3,none⟩=some (.slice (some am) nm mc)∧w'.cell? (am.add (kk * 5))=some (int i64 (m kk).kind)∧w'.cell? ⟨(am.add (kk * 5)).block,(am.add (kk * 5)).off+1,none⟩=some (int i64 (m kk).good)∧w'.cell? ⟨(am.add (kk * 5)).block,(am.add (kk * 5)).off+2,none⟩=some (int i64 (m kk).day)∧w'.cell? ⟨(am.add (kk * 5)).block,(am.add (kk * 5)).off+3,none⟩=some (int i64 (m kk).lo)∧w'.cell? ⟨(am.add (kk * 5)).block,(am.add (kk * 5)).off+4,none⟩=some (int i64 (m kk).hi)∧w'.cell? ⟨w3.heap.size,1,none⟩=some (.slice (some a2) l2.length p2)∧w'.cell? (a2.add kk)=some (int i64 v2)):=fun w' vM' mv' k1 k2 h=>
       ⟨h.box.cell 3,(h.below.cell (p:=⟨w.heap.size,3,none⟩) z1).trans (q1w 3),(h.below.cell hab).trans c0,(h.below.cell (p:=⟨(am.add (kk * 5)).block,(am.add (kk * 5)).off+1,none⟩) hab).trans c1,(h.below.cell (p:=⟨(am.add (kk * 5)).block,(am.add (kk * 5)).off+2,none⟩) hab).trans c2,(h.below.cell (p:=⟨(am.add (kk * 5)).block,(am.add (kk * 5)).off+3,none⟩) hab).trans c3,(h.below.cell (p:=⟨(am.add (kk * 5)).block,(am.add (kk * 5)).off+4,none⟩) hab).trans c4,(h.below.cell (p:=⟨w3.heap.size,1,none⟩) z2).trans (q2w 1),(h.below.cell (p:=a2.add kk) (by rw[aD];omega)).trans d2⟩
      have fE:=hid sW
      clear sW
      have YY:=hC.out.drew
      have HCd:=hid YY
      clear YY
      obtain⟨iM,hiM,hm0,hm1,hm2⟩:=info_parts Tryz.infoM
      obtain⟨i0,hi,hz0,hz1,hz2⟩:=info_parts info3
      refine BH [18,19] (fun w'=>w'.cell? ⟨wp.heap.size,3,none⟩=some vM∧w'.cell? ⟨w.heap.size,3,none⟩=some (.slice (some am) nm mc)∧w'.cell? (am.add (kk * 5))=some (int i64 (m kk).kind)∧w'.cell? ⟨(am.add (kk * 5)).block,(am.add (kk * 5)).off+1,none⟩=some (int i64 (m kk).good)∧w'.cell? ⟨(am.add (kk * 5)).block,(am.add (kk * 5)).off+2,none⟩=some (int i64 (m kk).day)∧w'.cell? ⟨(am.add (kk * 5)).block,(am.add (kk * 5)).off+3,none⟩=some (int i64 (m kk).lo)∧w'.cell? ⟨(am.add (kk * 5)).block,(am.add (kk * 5)).off+4,none⟩=some (int i64 (m kk).hi)∧w'.cell? ⟨w3.heap.size,1,none⟩=some (.slice (some a2) l2.length p2)∧w'.cell? (a2.add kk)=some (int i64 v2)) zk ?_
      have hS:=fE.out _ _ _ _ _ HCd.out
      refine IZ (i:=0) (some 130) hS ?_
      simp only[Act.put,List.setIfInBounds_toArray,List.set]
      refine IZ (i:=1) (some 131) hS ?_
      simp only[Act.put,List.setIfInBounds_toArray,List.set]
      refine IZ (i:=2) (some 132) hS ?_
      simp only[Act.put,List.setIfInBounds_toArray,List.set]
      refine IZ (i:=3) (some 133) hS ?_
      simp only[Act.put,List.setIfInBounds_toArray,List.set]
      refine IZ (i:=4) (some 134) hS ?_
      simp only[Act.put,List.setIfInBounds_toArray,List.set]
      refine IZ (i:=5) (some 135) hS ?_
      simp only[Act.put,List.setIfInBounds_toArray,List.set]
      refine IZ (i:=6) (some 136) hS ?_
      simp only[Act.put,List.setIfInBounds_toArray,List.set]
      refine IZ (i:=9) (some 139) hS ?_
      simp only[Act.put,List.setIfInBounds_toArray,List.set]
      refine IZ (i:=10) (some 140) hS ?_
      simp only[Act.put,List.setIfInBounds_toArray,List.set]
      refine IZ (i:=11) (some 141) hS ?_
      simp only[Act.put,List.setIfInBounds_toArray,List.set]
      refine IZ (i:=12) (some 142) hS ?_
      simp only[Act.put,List.setIfInBounds_toArray,List.set]
      refine IZ (i:=13) (some 143) hS ?_
      simp only[Act.put,List.setIfInBounds_toArray,List.set]
      refine IZ (i:=14) (some 144) hS ?_
      simp only[Act.put,List.setIfInBounds_toArray,List.set]
      refine sU (i:=7) (i':=15) zk rfl rfl (fun K hK=>?_) (fun K hK=>?_)
      ·go_simp
       have hA:=(hC.out.alloc (.cells #[int i64 (m kk).kind,int i64 (m kk).good,int i64 (m kk).day,int i64 (m kk).lo,int i64 (m kk).hi] 41)).drew
       have bA:(wr.alloc (.cells #[int i64 (m kk).kind,int i64 (m kk).good,int i64 (m kk).day,int i64 (m kk).lo,int i64 (m kk).hi] 41)).drew.heap[wr.heap.size]? =some (.cells #[int i64 (m kk).kind,int i64 (m kk).good,int i64 (m kk).day,int i64 (m kk).lo,int i64 (m kk).hi] 41):=heap_alloc_new wr _
       have sA:(wr.alloc (.cells #[int i64 (m kk).kind,int i64 (m kk).good,int i64 (m kk).day,int i64 (m kk).lo,int i64 (m kk).hi] 41)).drew.heap.size=wr.heap.size+1:=zs
       refine hK.out _ _ (fun _=>fE.out _ _ _ _ _ hA) ?_
       clear hK K
       generalize (wr.alloc (.cells #[int i64 (m kk).kind,int i64 (m kk).good,int i64 (m kk).day,int i64 (m kk).lo,int i64 (m kk).hi] 41)).drew=wA at *
       have HA:=hid hA
       clear hA
       refine sU (i:=8) (i':=15) zk rfl rfl (fun K hK=>?_) (fun K hK=>?_)
       ·refine bF rfl zr zr (step_append_lies (E:=True) _ zr _ _ _ zr (wp.heap.size+1) 41 iM _ 5 40 underlying23 hiM hm0 hm1 hm2 rfl zo vM (kept l3 kk).length _ zr HA.out.rM ⟨wr.heap.size,0,none⟩ 1 1 ((m kk).flat) zr zr (World.news_of_block bA) (by simp[Mv.flat,Value.oneCell']) zo zu zo zo _ rfl ?_)
        intro gg cap wB hown hgrow hat s8
        change K (Act.put _ (some 138) _) wB
        have hsB:=hgrow.size
        have hB:=HA.out.Sn hin hgrow hat hown
        refine hK.out _ _ (fun _=>fE.out _ _ _ _ _ hB) ?_
        clear hK K
        have HB:=hid hB
        clear hB
        simp only[Act.put,List.setIfInBounds_toArray,List.set]
        have Sv:=fE.out _ _ _ _ _ HB.out
        refine IZ (i:=17) (some 147) Sv ?_
        simp only[Act.put,List.setIfInBounds_toArray,List.set]
        refine uq 15 fun K hK=>?_
        go_simp
        have hY:=HB.out.alloc (.cells #[int i64 v2] 3)
        have bY:(wB.alloc (.cells #[int i64 v2] 3)).heap[wB.heap.size]? =some (.cells #[int i64 v2] 3):=heap_alloc_new wB _
        have sY:(wB.alloc (.cells #[int i64 v2] 3)).heap.size=wB.heap.size+1:=zs
        refine hK.out _ _ (fun _=>fE.out _ _ _ _ _ hY) ?_
        clear hK K
        have HY:=hid hY
        clear hY
        refine uq 16 fun K hK=>?_
        refine bF rfl zr zr (step_append_lies (E:=True) _ zr _ _ _ zr (wp.heap.size+1) 3 i0 _ 1 8 underlying30 hi hz0 hz1 hz2 rfl zo u18 (kept l3 kk).length _ zr HY.out.rI ⟨wB.heap.size,0,none⟩ 1 1 [int i64 v2] zr zr (World.news_of_block bY) (by simp[Value.oneCell']) zo zu zo zo _ rfl ?_)
        intro Xs cap2 wZ hown2 hgrow2 tY hlt2
        have hZ:=HY.out.Sm hin hgrow2 tY (by have:=de.out;rw[this] at hown2;exact hown2)
        refine hK.out _ _ (fun _=>fE.out _ _ _ _ _ hZ) ?_
        clear hK K
        have zf:=hZ.box.thaw 3
        have zc:wZ.cell? ⟨wp.heap.size,3,none⟩=some vM:=hZ.box.cell 3
        have HZ:=hid hZ
        clear hZ
        refine uq 18 fun K hK=>?_
        go_simp
        refine hK.out _ _ (fun h=>absurd zD h) ?_
        clear hK K
        refine uq 19 fun K hK=>?_
        go_simp
        refine hK.out _ _ (fun h=>absurd zD h) ?_
        clear hK K
        refine lI zk ?_ _
        gi_wp2
        go_roundw
        case rel=>exact⟨kk+1,_,zo,rfl,hid HZ.out.store⟩
        case measure=>simp[intOf];omega
       ·have SA:=hid sA
        clear sA
        go_simp
        have sA:=SA.out
        have hY:=HA.out.alloc (.cells #[int i64 v2] 3)
        have bY:(wA.alloc (.cells #[int i64 v2] 3)).heap[wA.heap.size]? =some (.cells #[int i64 v2] 3):=heap_alloc_new wA _
        have GP:(wA.alloc (.cells #[int i64 v2] 3)).heap[wr.heap.size]? =some (.cells #[int i64 (m kk).kind,int i64 (m kk).good,int i64 (m kk).day,int i64 (m kk).lo,int i64 (m kk).hi] 41):=(Below.heap_alloc wA _ _ zo).trans bA
        have sY:(wA.alloc (.cells #[int i64 v2] 3)).heap.size=wA.heap.size+1:=zs
        refine hK.out _ _ (fun _=>fE.out _ _ _ _ _ hY) ?_
        clear hK K
        generalize (wA.alloc (.cells #[int i64 v2] 3))=wY at *
        have HY:=hid hY
        clear hY
        refine uq 8 fun K hK=>?_
        refine bF rfl zr zr (step_append_lies (E:=True) _ zr _ _ _ zr (wp.heap.size+1) 41 iM _ 5 40 underlying23 hiM hm0 hm1 hm2 rfl zo vM (kept l3 kk).length _ zr HY.out.rM ⟨wr.heap.size,0,none⟩ 1 1 ((m kk).flat) zr zr (World.news_of_block GP) (by simp[Mv.flat,Value.oneCell']) zo zu zo zo _ rfl ?_)
        intro gg cap wB hown hgrow hat s8
        change K (Act.put _ (some 138) _) wB
        have hsB:=hgrow.size
        have hB:=HY.out.Sn hin hgrow hat hown
        refine hK.out _ _ (fun _=>fE.out _ _ _ _ _ hB) ?_
        clear hK K
        have HB:=hid hB
        clear hB
        simp only[Act.put,List.setIfInBounds_toArray,List.set]
        have Sv:=fE.out _ _ _ _ _ HB.out
        refine IZ (i:=17) (some 147) Sv ?_
        simp only[Act.put,List.setIfInBounds_toArray,List.set]
        have bZ:wB.heap[wA.heap.size]? =some (.cells #[int i64 v2] 3):=(hgrow.block wA.heap.size zo (fun e=>by have:=(HA.out.tS e.symm).2;omega)).trans bY
        refine uq 16 fun K hK=>?_
        refine bF rfl zr zr (step_append_lies (E:=True) _ zr _ _ _ zr (wp.heap.size+1) 3 i0 _ 1 8 underlying30 hi hz0 hz1 hz2 rfl zo u18 (kept l3 kk).length _ zr HB.out.rI ⟨wA.heap.size,0,none⟩ 1 1 [int i64 v2] zr zr (World.news_of_block bZ) (by simp[Value.oneCell']) zo zu zo zo _ rfl ?_)
        intro Xs cap2 wZ hown2 hgrow2 tY hlt2
        have hZ:=HB.out.Sm hin hgrow2 tY (by have:=de.out;rw[this] at hown2;exact hown2)
        refine hK.out _ _ (fun _=>fE.out _ _ _ _ _ hZ) ?_
        clear hK K
        have zf:=hZ.box.thaw 3
        have zc:wZ.cell? ⟨wp.heap.size,3,none⟩=some vM:=hZ.box.cell 3
        have HZ:=hid hZ
        clear hZ
        refine uq 18 fun K hK=>?_
        go_simp
        refine hK.out _ _ (fun h=>absurd zD h) ?_
        clear hK K
        refine uq 19 fun K hK=>?_
        go_simp
        refine hK.out _ _ (fun h=>absurd zD h) ?_
        clear hK K
        refine lI zk ?_ _
        gi_wp2
        go_roundw
        case rel=>exact⟨kk+1,_,zo,rfl,hid HZ.out.store⟩
        case measure=>simp[intOf];omega
      ·go_simp
       have hA:=(hC.out.alloc (.cells #[int i64 v2] 3)).drew
       have bA:(wr.alloc (.cells #[int i64 v2] 3)).drew.heap[wr.heap.size]? =some (.cells #[int i64 v2] 3):=heap_alloc_new wr _
       have sA:(wr.alloc (.cells #[int i64 v2] 3)).drew.heap.size=wr.heap.size+1:=zs
       refine hK.out _ _ (fun _=>fE.out _ _ _ _ _ hA) ?_
       clear hK K
       generalize (wr.alloc (.cells #[int i64 v2] 3)).drew=wA at *
       have HA:=hid hA
       clear hA
       refine uq 7 fun K hK=>?_
       have SA:=hid sA
       clear sA
       go_simp
       have sA:=SA.out
       have hY:=HA.out.alloc (.cells #[int i64 (m kk).kind,int i64 (m kk).good,int i64 (m kk).day,int i64 (m kk).lo,int i64 (m kk).hi] 41)
       have bY:(wA.alloc (.cells #[int i64 (m kk).kind,int i64 (m kk).good,int i64 (m kk).day,int i64 (m kk).lo,int i64 (m kk).hi] 41)).heap[wA.heap.size]? =some (.cells #[int i64 (m kk).kind,int i64 (m kk).good,int i64 (m kk).day,int i64 (m kk).lo,int i64 (m kk).hi] 41):=heap_alloc_new wA _
       have GP:(wA.alloc (.cells #[int i64 (m kk).kind,int i64 (m kk).good,int i64 (m kk).day,int i64 (m kk).lo,int i64 (m kk).hi] 41)).heap[wr.heap.size]? =some (.cells #[int i64 v2] 3):=(Below.heap_alloc wA _ _ zo).trans bA
       have sY:(wA.alloc (.cells #[int i64 (m kk).kind,int i64 (m kk).good,int i64 (m kk).day,int i64 (m kk).lo,int i64 (m kk).hi] 41)).heap.size=wA.heap.size+1:=zs
       refine hK.out _ _ (fun _=>fE.out _ _ _ _ _ hY) ?_
       clear hK K
       generalize (wA.alloc (.cells #[int i64 (m kk).kind,int i64 (m kk).good,int i64 (m kk).day,int i64 (m kk).lo,int i64 (m kk).hi] 41))=wY at *
       have HY:=hid hY
       clear hY
       refine uq 8 fun K hK=>?_
       refine bF rfl zr zr (step_append_lies (E:=True) _ zr _ _ _ zr (wp.heap.size+1) 41 iM _ 5 40 underlying23 hiM hm0 hm1 hm2 rfl zo vM (kept l3 kk).length _ zr HY.out.rM ⟨wA.heap.size,0,none⟩ 1 1 ((m kk).flat) zr zr (World.news_of_block bY) (by simp[Mv.flat,Value.oneCell']) zo zu zo zo _ rfl ?_)
       intro gg cap wB hown hgrow hat s8
       change K (Act.put _ (some 138) _) wB
       have hsB:=hgrow.size
       have hB:=HY.out.Sn hin hgrow hat hown
       refine hK.out _ _ (fun _=>fE.out _ _ _ _ _ hB) ?_
       clear hK K
       have HB:=hid hB
       clear hB
       simp only[Act.put,List.setIfInBounds_toArray,List.set]
       have Sv:=fE.out _ _ _ _ _ HB.out
       refine IZ (i:=17) (some 147) Sv ?_
       simp only[Act.put,List.setIfInBounds_toArray,List.set]
       have bZ:wB.heap[wr.heap.size]? =some (.cells #[int i64 v2] 3):=(hgrow.block wr.heap.size zo (fun e=>by have:=(hC.out.tS e.symm).2;omega)).trans GP
       refine uq 16 fun K hK=>?_
       refine bF rfl zr zr (step_append_lies (E:=True) _ zr _ _ _ zr (wp.heap.size+1) 3 i0 _ 1 8 underlying30 hi hz0 hz1 hz2 rfl zo u18 (kept l3 kk).length _ zr HB.out.rI ⟨wr.heap.size,0,none⟩ 1 1 [int i64 v2] zr zr (World.news_of_block bZ) (by simp[Value.oneCell']) zo zu zo zo _ rfl ?_)
       intro Xs cap2 wZ hown2 hgrow2 tY hlt2
       have hZ:=HB.out.Sm hin hgrow2 tY (by have:=de.out;rw[this] at hown2;exact hown2)
       refine hK.out _ _ (fun _=>fE.out _ _ _ _ _ hZ) ?_
       clear hK K
       have zf:=hZ.box.thaw 3
       have zc:wZ.cell? ⟨wp.heap.size,3,none⟩=some vM:=hZ.box.cell 3
       have HZ:=hid hZ
       clear hZ
       refine uq 18 fun K hK=>?_
       go_simp
       refine hK.out _ _ (fun h=>absurd zD h) ?_
       clear hK K
       refine uq 19 fun K hK=>?_
       go_simp
       refine hK.out _ _ (fun h=>absurd zD h) ?_
       clear hK K
       refine lI zk ?_ _
       gi_wp2
       go_roundw
       case rel=>exact⟨kk+1,_,zo,rfl,hid HZ.out.store⟩
       case measure=>simp[intOf];omega
     ·rename_i hh
      refine⟨⟨kk+1,vM,zo,rfl,hid (hC.out.skip ((lS _ _).1 (by simpa using hh)))⟩,?_⟩
      simp[intOf];omega
    ·obtain rfl:nm=kk:=zo
     gi_wp2
     obtain⟨A',c',eM,IF⟩:=hC.out.at_ W7.out
     obtain⟨A5,c5,eI,Y'⟩:=hC.out.many
     have hBx:=hC.out.box
     have hb6:=hC.out.below
     simp only at hBx eM IF eI
     subst eM
     subst eI
     have SZ:=hid hb6
     have HW8:=hid IF
     have HI6:=hid Y'
     clear hC hb6 IF Y'
     have q3:∀o,wr.cell? ⟨wp.heap.size,o,none⟩=(#[int i64 days,int i64 most,.slice gA ng gc,.slice A' (kept l3 nm).length c',.slice none 0 0]:Array Value)[o]?:=fun o=>hBx.cell o
     have DH:=hid (KF VX.out l3 A' c')
     have DQ:=hid (Ew lR.out A' c')
     have HI7:=hid (((aT VY.out).below hb |>.below (SZ.out.mono hsz)).more (show w5.heap.size≤wr.heap.size by omega))
     have hpl:=HP.out _ l1 (bg l2 l3 nm) [] wr DH.out R0.out DQ.out HW8.out _ A5 none p1 c5 0 HI7.out HI6.out (fun h=>absurd h (Nat.lt_irrefl 0))
     have ZH:=hid hpl
     clear hpl
     repeat refine aG.seq ?_
     refine aG.item ?_
     gi_wp2_with (gi_at_call 7;refine ZH.out.mono ?_;rintro e w9 ⟨E1,t1,E2,t2,rfl,hJ1,hJ2,bE⟩)
     have hs9:=bE.size
     have k59:Below w5.heap.size w5 w9:=(hb.trans (SZ.out.mono hsz)).trans (bE.mono zo)
     have hle:=TN ⟨days,most,gA,ng,gc,g,mA,nm,mc,m,cA,nc,cc,c⟩ l1 l2 l3 G (by have:=VX.out.days.1;omega)
     have hlf:=OW ⟨days,most,gA,ng,gc,g,mA,nm,mc,m,cA,nc,cc,c⟩ l1 l2 l3 G
     have hlk:=OO VX.out l1 l2 l3 G
     simp only at hlk
     have hn1:n1=jM ⟨days,most,gA,ng,gc,g,mA,nm,mc,m,cA,nc,cc,c⟩ l1 l2 l3 G:=by rw[hlk,← Fl.out,S5.out]
     refine aG.stop ⟨Dw.out.trans (k59.mono zo),.inr ⟨rfl,ng,G,(fun i=>jM ⟨days,most,gA,ng,gc,g,mA,nm,mc,m,cA,nc,cc,c⟩ l1 l2 l3 i),(fun i=>pR ⟨days,most,gA,ng,gc,g,mA,nm,mc,m,cA,nc,cc,c⟩ l1 l2 l3 i),(fun i=>l1.getD i 0),B1,B2,E1,E2,some a1,r1,r2,t1,t2,p1,l1.length,w3.heap.size,?_⟩⟩
     exact⟨H',te,rfl,rfl,rfl,rfl,rfl,rfl,rfl,rfl,by rw[← hn1];rfl,rfl,((bE.cell (p:=⟨w3.heap.size,0,none⟩) (by show w3.heap.size<wr.heap.size;omega)).trans (q2 0)),by rw[xv.out];exact H',(((aT VY.out).below k59).more (by have:=k59.size;omega)),((HI1.out.below k59).more (by have:=k59.size;omega)),((HI2.out.below k59).more (by have:=k59.size;omega)),(funext (fun i=>El _ l1 l2 l3 i A' c') ▸ hJ1:_),(funext (fun i=>GQ _ l1 l2 l3 i A' c') ▸ hJ2:_),hle,hlf⟩
end
end
end Go.Proofs.YtmjjocnfidnelaaGreat
