/- YF YT MK -/
import Derived.Test.YthaelabgfnnebaaGreatA7
import Derived.Shelf.Abstract
set_option maxRecDepth 100000
set_option maxHeartbeats 16000000
set_option linter.unusedVariables false
set_option linter.unusedSectionVars false
open Go.IntKind(i64)
open Go.Lib(hid)
open Go.Proofs.Tryz
open Go.Value(int)
namespace Go.Proofs.YthaelabgfnnebaaGreat
section
open Go.RowKit
open Go.Sort (grow)
attribute [local go_sem] Oper.semAt_some
theorem dc{p:FuncId→Prop}[Aa p](b:Bk)(ok:b.Ok)(C:Nat→Prop)(N0 Bb By Bf l:Nat)(W0:World)(J Jx:List Ht→World→Prop)(xs:List Ht)(hC:∀x,C x→x<W0.heap.size)
 (hJ:∀pre A B,J pre A→Below W0.heap.size A B→J pre B)
 (hY:∀pre x A,pre ++ [x]<+:xs→J pre A→Keeps C W0 A→YieldAt (FW p) 0 prog l #[x.val] A fun e B=>Keeps C A B∧((e=.returned (.bool true)∧J (pre ++ [x]) B)∨(e=.returned (.bool false)∧Jx (pre ++ [x]) B))):
 ∀ (fuel k:Nat) (h:Ht) (s:Nat→Int) (pre:List Ht) (W:World),k+fuel=b.nm→FM b C N0 Bb By Bf l W→Keeps C W0 W→J pre W→(pre ++ dO b fuel k h s)<+:xs→(∀q,q<3→-99 * (k:Int)≤s q∧s q≤99 * ((k:Int)+1))→h.lies<64→
   CallsIn (FW p) 0 prog 102 #[h.val,lY s,int i64 k,.pointer (some ⟨Bb,0,none⟩),.pointer (some ⟨By,0,none⟩),.pointer (some ⟨Bf,0,none⟩)] W fun e W'=>Keeps C W W'∧((e=.returned (.bool true)∧J (pre ++ dO b fuel k h s) W')∨(e=.returned (.bool false)∧∃q,q<+:dO b fuel k h s∧Jx (pre ++ q) W')):=by
 have HhC:=hid hC
 have bt:=hid hJ
 have HhY:=hid hY
 clear hC hJ hY
 intro fuel
 induction fuel with
 | zero=>
   intro k h s pre W hkn hM kO hj hpre hs hl
   have Sv:=ok.moves.1
   have Dy:∀w,b.At w w.heap.size→CallsIn (FW p) 0 prog 104 #[b.val,int i64 k] w fun e w'=>e=.returned (.agg #[int i64 (eu b k),int i64 (fK b k)])∧Below w.heap.size w w':=fun w hA=>CallsIn.wide (Cv b k w hA zo ok.moves.1 (fun i hi=>by have:=(ok.moves.2 i hi).day;have:=ok.days;omega))
   have Rz:∀w,b.At w w.heap.size→CallsIn (FW p) 0 prog 103 #[b.val,lY s,.agg #[int i64 (eu b k),int i64 (fK b k)]] w fun e w'=>e=.returned (.bool (iF b s (eu b k) (fK b k)))∧Below w.heap.size w w':=fun w hA=>CallsIn.wide (BQ b s _ _ w hA ok.counts.1 (fun i hi=>by have:=(ok.counts.2 i hi).good;have:=ok.bM.1;omega))
   obtain⟨L1,hL1⟩:∃x,x=eu b k:=⟨_,rfl⟩
   obtain⟨L2,hL2⟩:∃x,x=fK b k:=⟨_,rfl⟩
   obtain⟨R,hR⟩:∃R,R=iF b s (eu b k) (fK b k):=⟨_,rfl⟩
   have hfl:dO b 0 k h s=if R=true then[h] else[]:=by rw[hR];rfl
   rw[← hL1,← hL2] at Dy Rz
   rw[← hL1,← hL2] at hR
   rw[← hR] at Rz
   rw[hfl] at hpre⊢
   have hbk:b.nm=k:=zo
   clear hfl hL1 hL2 hR hs
   obtain⟨days,most,gA,ng,gc,g,mA,nm,mc,m,cA,nc,cc,c⟩:=b
   simp only at Sv hbk
   subst hbk
   have hdk:decide ((nm:Int)=(nm:Int))=true:=decide_eq_true rfl
   have HOK:=hid ok
   clear ok hkn
   obtain⟨hf,hmm,lies⟩:=h
   simp only[Bk.val,Bk.cells,lY] at Dy Rz
   have az:=hid Dy
   have AN:=hid Rz
   have HM:=hid hM
   have Na:=hid kO
   have mr:=hid hj
   have mL:=hid hpre
   clear Dy Rz hM kO hj hpre
   simp only[lY,Ht.val,Ht.cells]
   obtain⟨w2,hw2⟩:∃w2,w2=(W.alloc (.cells #[int i64 (hf 0),int i64 (hf 1),int i64 (hf 2),int i64 (hmm 0),int i64 (hmm 1),int i64 (hmm 2),int i64 (hmm 3),int i64 (hmm 4),int i64 (hmm 5),int i64 lies] 88)).alloc (.cells #[int i64 (s 0),int i64 (s 1),int i64 (s 2)] 85):=⟨_,rfl⟩
   have H2:Hid (Whole w2 W.heap.size 88 #[int i64 (hf 0),int i64 (hf 1),int i64 (hf 2),int i64 (hmm 0),int i64 (hmm 1),int i64 (hmm 2),int i64 (hmm 3),int i64 (hmm 4),int i64 (hmm 5),int i64 lies]):=hid (by rw[hw2];exact(Whole.new _ _ _).alloc _)
   have S2:Hid (Whole w2 (W.heap.size+1) 85 #[int i64 (s 0),int i64 (s 1),int i64 (s 2)]):=hid (by
    have:=Whole.new (W.alloc (.cells #[int i64 (hf 0),int i64 (hf 1),int i64 (hf 2),int i64 (hmm 0),int i64 (hmm 1),int i64 (hmm 2),int i64 (hmm 3),int i64 (hmm 4),int i64 (hmm 5),int i64 lies] 88)) 85 #[int i64 (s 0),int i64 (s 1),int i64 (s 2)]
    rw[World.size_alloc] at this;rw[hw2];exact this)
   have B2:Hid (Below W.heap.size W w2):=hid (by rw[hw2];exact bw)
   have M2:=hid (HM.out.keeps (Keeps.bJ B2.out))
   have ER:=hid hw2
   clear hw2
   have q0:∀d os,(grow (redrawn w2 d) os).cell? ⟨Bb,0,none⟩=some (int i64 days):=cell_regrown (M2.out.wb.cell 0)
   have q1:∀d os,(grow (redrawn w2 d) os).cell? ⟨Bb,1,none⟩=some (int i64 most):=cell_regrown (M2.out.wb.cell 1)
   have q2:∀d os,(grow (redrawn w2 d) os).cell? ⟨Bb,2,none⟩=some (.slice gA ng gc):=cell_regrown (M2.out.wb.cell 2)
   have q3:∀d os,(grow (redrawn w2 d) os).cell? ⟨Bb,3,none⟩=some (.slice mA nm mc):=cell_regrown (M2.out.wb.cell 3)
   have q4:∀d os,(grow (redrawn w2 d) os).cell? ⟨Bb,4,none⟩=some (.slice cA nc cc):=cell_regrown (M2.out.wb.cell 4)
   have r0:=cell_regrown (S2.out.cell 0)
   have r1:=cell_regrown (S2.out.cell 1)
   have r2:=cell_regrown (S2.out.cell 2)
   have cS:∀d os,CallsIn (FW p) 0 prog 104 #[.agg #[int i64 days,int i64 most,.slice gA ng gc,.slice mA nm mc,.slice cA nc cc],int i64 nm] (grow (redrawn w2 d) os) fun e w''=>e=.returned (.agg #[int i64 L1,int i64 L2])∧∃p:Regrown,w''=grow (redrawn w2 p.d) p.os:=fun d os=>CallsIn.regrown_of (az.out _ (((M2.out.at_.more M2.out.n0).below (below_regrown w2 d os)).more (below_regrown w2 d os).size))
   have cR:∀d os,CallsIn (FW p) 0 prog 103 #[.agg #[int i64 days,int i64 most,.slice gA ng gc,.slice mA nm mc,.slice cA nc cc],.agg #[int i64 (s 0),int i64 (s 1),int i64 (s 2)],.agg #[int i64 L1,int i64 L2]] (grow (redrawn w2 d) os) fun e w''=>e=.returned (.bool R)∧∃p:Regrown,w''=grow (redrawn w2 p.d) p.os:=fun d os=>CallsIn.regrown_of (AN.out _ (((M2.out.at_.more M2.out.n0).below (below_regrown w2 d os)).more (below_regrown w2 d os).size))
   gi_enter func102,ntmps102
   gi_wp2
   rw[← ER.out]
   cases R
   ·refine wpIn_region_quiet_below rfl zk zk ?_
    repeat (quiet_step_in (first|exact cS _ _|exact cR _ _))
    refine wpQuietIn_nil ?_
    rintro w' ⟨⟨dq,osq⟩,rfl⟩
    have bD:=below_regrown w2 dq osq
    clear q0 q1 q2 q3 q4 r0 r1 r2 cS cR
    generalize grow (redrawn w2 dq) osq=w3 at bD⊢
    gi_wp2
    go_ret
    have hb:Below W.heap.size W w3:=B2.out.trans (bD.mono B2.out.size)
    exact⟨Keeps.bJ hb,.inl ⟨rfl,by simpa using bt.out _ _ _ mr.out (hb.mono Na.out.size)⟩⟩
   ·refine wpIn_region_quiet_below rfl zk zk ?_
    repeat (quiet_step_in (first|exact cS _ _|exact cR _ _))
    refine wpQuietIn_nil ?_
    rintro w' ⟨⟨dq,osq⟩,rfl⟩
    have bD:=below_regrown w2 dq osq
    clear q0 q1 q2 q3 q4 r0 r1 r2 cS cR
    generalize grow (redrawn w2 dq) osq=w3 at bD⊢
    have H3:=hid (H2.out.below bD H2.out.lt)
    have hb:Below W.heap.size W w3:=B2.out.trans (bD.mono B2.out.size)
    have M3:=hid (HM.out.keeps (Keeps.bJ hb))
    have J3:=bt.out _ _ _ mr.out (hb.mono Na.out.size)
    have K3:=Na.out.trans (Keeps.bJ hb)
    have km:Hid (Keeps C W w3):=hid (Keeps.bJ hb)
    obtain⟨fn,tmps,as1,bd,hy,la⟩:=HhY.out pre ⟨hf,hmm,lies⟩ w3 (by simpa using mL.out) J3 K3
    simp only[Ht.val,Ht.cells] at hy
    have c3:∀i,w3.cell? ⟨Bb,i,none⟩=(#[int i64 days,int i64 most,.slice gA ng gc,.slice mA nm mc,.slice cA nc cc]:Array Value)[i]?:=M3.out.wb.cell
    have y3:w3.cell? ⟨By,0,none⟩=some (.func (.yield l) #[] #[]):=M3.out.wy.cell 0
    have h3:=H3.out.cell
    have AM:=hid la
    clear bD hb H2 S2 B2 M2 ER mL J3 K3 la
    gi_wp2
    refine AM.out.mono ?_
    rintro e W5 ⟨hk5,(⟨rfl,di⟩|⟨rfl,hx5⟩)⟩
    ·gi_wp2
     go_ret
     exact⟨km.out.trans hk5,.inl ⟨rfl,by simpa using di⟩⟩
    ·gi_wp2
     go_ret
     exact⟨km.out.trans hk5,.inr ⟨rfl,[⟨hf,hmm,lies⟩],zs,hx5⟩⟩
 | succ fuel ih=>
   intro k h s pre W hkn hM kO hj hpre hs hl
   have Sv:=ok.moves.1
   have J1:=ok.moves.2 k zo
   have hsz0:=kO.size
   have Dy:∀w,b.At w w.heap.size→CallsIn (FW p) 0 prog 104 #[b.val,int i64 k] w fun e w'=>e=.returned (.agg #[int i64 (eu b k),int i64 (fK b k)])∧Below w.heap.size w w':=fun w hA=>CallsIn.wide (Cv b k w hA zo ok.moves.1 (fun i hi=>by have:=(ok.moves.2 i hi).day;have:=ok.days;omega))
   have Rz:∀w,b.At w w.heap.size→CallsIn (FW p) 0 prog 103 #[b.val,lY s,.agg #[int i64 (eu b k),int i64 (fK b k)]] w fun e w'=>e=.returned (.bool (iF b s (eu b k) (fK b k)))∧Below w.heap.size w w':=fun w hA=>CallsIn.wide (BQ b s _ _ w hA ok.counts.1 (fun i hi=>by have:=(ok.counts.2 i hi).good;have:=ok.bM.1;omega))
   obtain⟨L1,hL1⟩:∃x,x=eu b k:=⟨_,rfl⟩
   obtain⟨L2,hL2⟩:∃x,x=fK b k:=⟨_,rfl⟩
   obtain⟨R,hR⟩:∃R,R=iF b s (eu b k) (fK b k):=⟨_,rfl⟩
   have hfl:dO b (fuel+1) k h s=if R=true then(bC (b.m k).lo ((b.m k).hi - (b.m k).lo+1).toNat).flatMap fun x=>dO b fuel (k+1) (bH h k x) (uU b s (bH h k x) k) else[]:=by rw[hR];rfl
   rw[← hL1,← hL2] at Dy Rz
   rw[← hL1,← hL2] at hR
   rw[← hR] at Rz
   rw[hfl] at hpre⊢
   have cz:∀x w,0≤x→x≤99→b.At w w.heap.size→CallsIn (FW p) 0 prog 79 #[b.val,lY s,(bH h k x).val,int i64 k] w fun e w'=>e=.returned (lY (uU b s (bH h k x) k))∧Below w.heap.size w w':=fun x w hx1 hx2 hA=>CallsIn.wide (Go.Proofs.YthaelabgfnnebaaGreat.W.vE b s (bH h k x) k w hA zo J1 ok.bM.1.2 zo hl (fun q hq=>by have:=hs q hq;omega) (by
    unfold Ht.real
    split
    ·omega
    ·simp[bH];omega))
   have hsA:∀x,0≤x→x≤99→∀q,q<3→-99 * ((k+1:Nat):Int)≤uU b s (bH h k x) k q∧uU b s (bH h k x) k q≤99 * (((k+1:Nat):Int)+1):=fun x hx1 hx2 q hq=>by
    have h1:=hs q hq
    have h2:0≤(bH h k x).real k∧(bH h k x).real k≤99:=by
     unfold Ht.real
     split
     ·omega
     ·simp[bH];omega
    unfold uU Zl
    push_cast
    split <;> (try split) <;> omega
   have WG:=jK J1.few
   obtain⟨AF,wi⟩:∃AF,AF=fun x=>uU b s (bH h k x) k:=⟨_,rfl⟩
   obtain⟨FL,xa⟩:∃FL,FL=fun x=>dO b fuel (k+1) (bH h k x) (AF x):=⟨_,rfl⟩
   have pZ:(fun x=>dO b fuel (k+1) (bH h k x) (uU b s (bH h k x) k))=FL:=by rw[xa,wi]
   rw[pZ] at hpre⊢
   have T3:∀x pre W,0≤x→x≤99→FM b C N0 Bb By Bf l W→Keeps C W0 W→J pre W→(pre ++ FL x)<+:xs→CallsIn (FW p) 0 prog 102 #[(bH h k x).val,lY (AF x),int i64 ((k:Int)+1),.pointer (some ⟨Bb,0,none⟩),.pointer (some ⟨By,0,none⟩),.pointer (some ⟨Bf,0,none⟩)] W fun e W'=>Keeps C W W'∧((e=.returned (.bool true)∧J (pre ++ FL x) W')∨(e=.returned (.bool false)∧∃q,q<+:FL x∧Jx (pre ++ q) W')):=fun x pre W h1 h2 hM hK hj hp=>by
    have:=ih (k+1) (bH h k x) (AF x) pre W zo hM hK hj (by rw[xa] at hp;exact hp) (by rw[wi];exact hsA x h1 h2) hl
    rw[xa]
    exact_mod_cast this
   have ob:∀x w,0≤x→x≤99→b.At w w.heap.size→CallsIn (FW p) 0 prog 79 #[b.val,lY s,(bH h k x).val,int i64 k] w fun e w'=>e=.returned (lY (AF x))∧Below w.heap.size w w':=by rw[wi];exact cz
   have hbk:b.nm=k+(fuel+1):=hkn.symm
   have hM0:=hM
   clear ih cz hsA hfl pZ xa wi hL1 hL2 hR hs J1
   obtain⟨cnt,hcnt⟩:∃cnt,cnt=((b.m k).hi - (b.m k).lo+1).toNat:=⟨_,rfl⟩
   rw[← hcnt] at hpre⊢
   obtain⟨days,most,gA,ng,gc,g,mA,nm,mc,m,cA,nc,cc,c⟩:=b
   obtain⟨lo,hlo⟩:∃lo,lo=(m k).lo:=⟨_,rfl⟩
   obtain⟨hi,hhi⟩:∃hi,hi=(m k).hi:=⟨_,rfl⟩
   simp only at Sv hbk WG hcnt hpre
   rw[← hlo,← hhi] at WG hcnt
   rw[← hlo] at hpre
   simp only
   rw[← hlo]
   have hc3:cnt≤3:=zo
   have HC:Hid ((cnt:Int)=hi - lo+1):=hid zo
   have HF:=hid WG
   clear hcnt WG
   have HKN:=hid hbk
   have HOK:=hid ok
   clear hkn ok
   have hdk:decide ((k:Int)=(nm:Int))=false:=decide_eq_false zo
   have aai:((k:Int) == (nm:Int))=false:=zm
   obtain⟨ad,hA',-,-⟩:=hM.at_.m (show 0<nm by omega)
   have hkl:k<nm:=zo
   clear hbk hsz0
   simp only at hA'
   subst hA'
   have row:∀w',Keeps C W w'→w'.cell? ⟨(ad.add (k * 5)).block,(ad.add (k * 5)).off+3,none⟩=some (int i64 lo)∧w'.cell? ⟨(ad.add (k * 5)).block,(ad.add (k * 5)).off+3+1,none⟩=some (int i64 hi):=fun w' hk=>by
    have hr:=(hM.keeps hk).at_.m.row hkl
    rw[hlo,hhi]
    exact⟨hr.2 3 zD,hr.2 4 zD⟩
   have Row:=hid row
   clear row hlo hhi
   obtain⟨hf,hmm,lies⟩:=h
   simp only[Bk.val,Bk.cells,lY] at Dy Rz
   have az:=hid Dy
   have AN:=hid Rz
   have xT:=hid ob
   have HIh:=hid T3
   have HM:=hid hM
   clear Dy Rz ob T3 hM0 hM
   have Na:=hid kO
   have mr:=hid hj
   have mL:=hid hpre
   clear kO hj hpre
   simp only[lY,Ht.val,Ht.cells]
   obtain⟨w2,hw2⟩:∃w2,w2=(W.alloc (.cells #[int i64 (hf 0),int i64 (hf 1),int i64 (hf 2),int i64 (hmm 0),int i64 (hmm 1),int i64 (hmm 2),int i64 (hmm 3),int i64 (hmm 4),int i64 (hmm 5),int i64 lies] 88)).alloc (.cells #[int i64 (s 0),int i64 (s 1),int i64 (s 2)] 85):=⟨_,rfl⟩
   have H2:Hid (Whole w2 W.heap.size 88 #[int i64 (hf 0),int i64 (hf 1),int i64 (hf 2),int i64 (hmm 0),int i64 (hmm 1),int i64 (hmm 2),int i64 (hmm 3),int i64 (hmm 4),int i64 (hmm 5),int i64 lies]):=hid (by rw[hw2];exact(Whole.new _ _ _).alloc _)
   have S2:Hid (Whole w2 (W.heap.size+1) 85 #[int i64 (s 0),int i64 (s 1),int i64 (s 2)]):=hid (by
    have:=Whole.new (W.alloc (.cells #[int i64 (hf 0),int i64 (hf 1),int i64 (hf 2),int i64 (hmm 0),int i64 (hmm 1),int i64 (hmm 2),int i64 (hmm 3),int i64 (hmm 4),int i64 (hmm 5),int i64 lies] 88)) 85 #[int i64 (s 0),int i64 (s 1),int i64 (s 2)]
    rw[World.size_alloc] at this;rw[hw2];exact this)
   have B2:Hid (Below W.heap.size W w2):=hid (by rw[hw2];exact bw)
   have M2:=hid (HM.out.keeps (Keeps.bJ B2.out))
   have ER:=hid hw2
   clear hw2
   have q0:∀d os,(grow (redrawn w2 d) os).cell? ⟨Bb,0,none⟩=some (int i64 days):=cell_regrown (M2.out.wb.cell 0)
   have q1:∀d os,(grow (redrawn w2 d) os).cell? ⟨Bb,1,none⟩=some (int i64 most):=cell_regrown (M2.out.wb.cell 1)
   have q2:∀d os,(grow (redrawn w2 d) os).cell? ⟨Bb,2,none⟩=some (.slice gA ng gc):=cell_regrown (M2.out.wb.cell 2)
   have q3:∀d os,(grow (redrawn w2 d) os).cell? ⟨Bb,3,none⟩=some (.slice (some ad) nm mc):=cell_regrown (M2.out.wb.cell 3)
   have q4:∀d os,(grow (redrawn w2 d) os).cell? ⟨Bb,4,none⟩=some (.slice cA nc cc):=cell_regrown (M2.out.wb.cell 4)
   have r0:=cell_regrown (S2.out.cell 0)
   have r1:=cell_regrown (S2.out.cell 1)
   have r2:=cell_regrown (S2.out.cell 2)
   have cS:∀d os,CallsIn (FW p) 0 prog 104 #[.agg #[int i64 days,int i64 most,.slice gA ng gc,.slice (some ad) nm mc,.slice cA nc cc],int i64 k] (grow (redrawn w2 d) os) fun e w''=>e=.returned (.agg #[int i64 L1,int i64 L2])∧∃p:Regrown,w''=grow (redrawn w2 p.d) p.os:=fun d os=>CallsIn.regrown_of (az.out _ (((M2.out.at_.more M2.out.n0).below (below_regrown w2 d os)).more (below_regrown w2 d os).size))
   have cR:∀d os,CallsIn (FW p) 0 prog 103 #[.agg #[int i64 days,int i64 most,.slice gA ng gc,.slice (some ad) nm mc,.slice cA nc cc],.agg #[int i64 (s 0),int i64 (s 1),int i64 (s 2)],.agg #[int i64 L1,int i64 L2]] (grow (redrawn w2 d) os) fun e w''=>e=.returned (.bool R)∧∃p:Regrown,w''=grow (redrawn w2 p.d) p.os:=fun d os=>CallsIn.regrown_of (AN.out _ (((M2.out.at_.more M2.out.n0).below (below_regrown w2 d os)).more (below_regrown w2 d os).size))
   gi_enter func102,ntmps102
   gi_wp2
   rw[← ER.out]
   cases R
   ·refine wpIn_region_quiet_below rfl zk zk ?_
    repeat (quiet_step_in (first|exact cS _ _|exact cR _ _))
    refine wpQuietIn_nil ?_
    rintro w' ⟨⟨dq,osq⟩,rfl⟩
    have bD:=below_regrown w2 dq osq
    clear q0 q1 q2 q3 q4 r0 r1 r2 cS cR
    generalize grow (redrawn w2 dq) osq=w3 at bD⊢
    gi_wp2
    go_ret
    have hb:Below W.heap.size W w3:=B2.out.trans (bD.mono B2.out.size)
    exact⟨Keeps.bJ hb,.inl ⟨rfl,by simpa using bt.out _ _ _ mr.out (hb.mono Na.out.size)⟩⟩
   ·refine wpIn_region_quiet_below rfl zk zk ?_
    repeat (quiet_step_in (first|exact cS _ _|exact cR _ _))
    refine wpQuietIn_nil ?_
    rintro w' ⟨⟨dq,osq⟩,rfl⟩
    have bD:=below_regrown w2 dq osq
    clear q0 q1 q2 q3 q4 r0 r1 r2 cS cR
    generalize grow (redrawn w2 dq) osq=w3 at bD⊢
    have H3:=hid (H2.out.below bD H2.out.lt)
    have S3:=hid (S2.out.below bD S2.out.lt)
    have hb:Below W.heap.size W w3:=B2.out.trans (bD.mono B2.out.size)
    have M3:=hid (HM.out.keeps (Keeps.bJ hb))
    have J3:=hid (bt.out _ _ _ mr.out (hb.mono Na.out.size))
    have K3:=hid (Na.out.trans (Keeps.bJ hb))
    have km:Hid (Keeps C W w3):=hid (Keeps.bJ hb)
    have hs3:=S3.out.lt
    have c3:∀i,w3.cell? ⟨Bb,i,none⟩=(#[int i64 days,int i64 most,.slice gA ng gc,.slice (some ad) nm mc,.slice cA nc cc]:Array Value)[i]?:=M3.out.wb.cell
    obtain⟨r3,r4⟩:=Row.out w3 km.out
    have AI:Hid (pre ++ (bC lo cnt).flatMap FL<+:xs):=hid (by simpa using mL.out)
    clear bD hb H2 S2 B2 M2 ER mL
    gi_wp2
    have rf:∀x,W.heap.size≤x→¬ C x:=fun x hx hc=>by have:=HhC.out x hc;have:=Na.out.size;omega
    have ux:=hid rf
    obtain⟨w4,hw4⟩:∃w4,w4=w3.alloc (.cells #[int i64 lo,int i64 hi] 38):=⟨_,rfl⟩
    have P4:Hid (Whole w4 w3.heap.size 38 #[int i64 lo,int i64 hi]):=hid (by rw[hw4];exact Whole.new _ _ _)
    have H4:Hid (Whole w4 W.heap.size 88 (⟨hf,hmm,lies⟩:Ht).cells):=hid (by rw[hw4];exact H3.out.alloc _)
    have S4:Hid (Whole w4 (W.heap.size+1) 85 #[int i64 (s 0),int i64 (s 1),int i64 (s 2)]):=hid (by rw[hw4];exact S3.out.alloc _)
    have KW4:Hid (Keeps C W w4):=hid (by rw[hw4];exact km.out.trans (Keeps.bJ ((Below.refl _ _).alloc (Nat.le_refl _) _)))
    have J4:Hid (J pre w4):=hid (by rw[hw4];exact bt.out _ _ _ J3.out ((Below.refl _ _).alloc K3.out.size _))
    have hs4:w3.heap.size<w4.heap.size:=P4.out.lt
    rw[← hw4]
    have hWs:W.heap.size+1<w3.heap.size:=hs3
    clear hw4 H3 S3 km J3 K3 M3 c3 r3 r4 rf
    gi_loopw [11] (fun n wr=>∃i:Nat,i≤cnt∧n=int i64 (lo+i)∧∃hm:Nat→Int,Hid (Keeps (fun x=>C x∨x=W.heap.size) w4 wr∧Whole wr W.heap.size 88 (⟨hf,hm,lies⟩:Ht).cells∧(∀x,bH ⟨hf,hm,lies⟩ k x=bH ⟨hf,hmm,lies⟩ k x)∧J (pre ++ (bC lo i).flatMap FL) wr)) (fun n _=>(hi+1 - intOf n).toNat)
    case atStart=>exact⟨0,Nat.zero_le _,zs,hmm,hid ⟨Keeps.refl _ _,H4.out,fun _=>rfl,by simpa [bC] using J4.out⟩⟩
    case round=>
     obtain⟨i,hii,rfl,hm,hT⟩:=hrel
     clear J4 H4
     have hKr:Keeps C W wr:=KW4.out.then hT.out.1 fun x hx h=>h.elim id fun h=>zo
     have N':=hid hKr
     have Mr:=hid (HM.out.keeps hKr)
     have Sr:=hid (S4.out.keeps hT.out.1 (fun h=>h.elim (ux.out _ zo) (fun h=>zo)))
     have Pr:=hid (P4.out.keeps hT.out.1 (fun h=>h.elim (ux.out _ zo) (fun h=>zo)))
     have g1:wr.cell? ⟨w3.heap.size,1,none⟩=some (int i64 hi):=Pr.out.cell 1
     have hst:=hT.out.1.size
     clear hKr
     by_cases hic:i<cnt
     ·have hd:decide (lo+(i:Int)≤hi)=true:=decide_eq_true (by have:=HC.out;omega)
      have hk0:(0:Int)≤(k:Int):=zo
      have Sn:(k:Int)<6:=zo
      have x0:wr.cell? ⟨W.heap.size,3+k,none⟩=some (int i64 (hm k)):=(hT.out.2.1.cell _).trans (RF zo)
      have xf:=hT.out.2.1.thaw
      have hWr:=hT.out.2.1.lt
      have hn0:0≤lo+(i:Int)∧lo+(i:Int)≤99:=by have:=HC.out;have:=HF.out;omega
      have Of:=hid hn0
      have hnw:wrap64 (lo+(i:Int)+1)=lo+(i:Int)+1:=IntWalk.wrap64_in _ zo
      have mx:=hid hnw
      clear hn0
      obtain⟨nv,eo⟩:∃nv,nv=lo+(i:Int):=⟨_,rfl⟩
      have Lh:=hid eo
      rw[← eo] at hd Of hnw⊢
      clear eo
      gi_wp2
      obtain⟨hx,hhx⟩:∃hx,hx=bH ⟨hf,hmm,lies⟩ k nv:=⟨_,rfl⟩
      obtain⟨sx,hsx⟩:∃sx,sx=AF nv:=⟨_,rfl⟩
      have hx2:hx=(⟨hf,fun i=>if i=k then nv else hm i,lies⟩:Ht):=by rw[hhx,← hT.out.2.2.1 nv];rfl
      obtain⟨w7,hw7⟩:∃w7,w7=wr.setCell ⟨W.heap.size,3+k,none⟩ (int i64 nv):=⟨_,rfl⟩
      have W7:Hid (Whole w7 W.heap.size 88 #[int i64 (hx.f 0),int i64 (hx.f 1),int i64 (hx.f 2),int i64 (hx.m 0),int i64 (hx.m 1),int i64 (hx.m 2),int i64 (hx.m 3),int i64 (hx.m 4),int i64 (hx.m 5),int i64 hx.lies]):=hid (by
       have:=hT.out.2.1.set (3+k) (int i64 nv)
       rw[Nu zo,← hx2,← hw7] at this
       exact this)
      have K7:Hid (Keeps (fun x=>C x∨x=W.heap.size) wr w7):=hid (by rw[hw7];exact(Keeps.refl _ _).set (p:=⟨W.heap.size,3+k,none⟩) (.inr rfl) _)
      have BT:Hid (Keeps C W w7):=hid (N'.out.then K7.out fun x hx h=>h.elim id fun h=>zo)
      have M7:=hid (HM.out.keeps BT.out)
      have S7:=hid (Sr.out.keeps K7.out (fun h=>h.elim (ux.out _ zo) (fun h=>zo)))
      have J7:Hid (J (pre ++ (bC lo i).flatMap FL) w7):=hid (by rw[hw7];exact bt.out _ _ _ hT.out.2.2.2 ((Below.refl _ _).setCell (p:=⟨W.heap.size,3+k,none⟩) (by have:=Na.out.size;exact this) _))
      have HX2:=hid hx2
      have QX:=Of.out
      have cz:=fun w=>xT.out nv w QX.1 QX.2
      have vq:=fun pre W=>HIh.out nv pre W QX.1 QX.2
      rw[← hhx,← hsx] at cz vq
      simp only[Bk.val,Bk.cells,Ht.val,Ht.cells,lY] at cz vq
      have HcI:=hid vq
      have So:∀d os,CallsIn (FW p) 0 prog 79 #[.agg #[int i64 days,int i64 most,.slice gA ng gc,.slice (some ad) nm mc,.slice cA nc cc],.agg #[int i64 (s 0),int i64 (s 1),int i64 (s 2)],.agg #[int i64 (hx.f 0),int i64 (hx.f 1),int i64 (hx.f 2),int i64 (hx.m 0),int i64 (hx.m 1),int i64 (hx.m 2),int i64 (hx.m 3),int i64 (hx.m 4),int i64 (hx.m 5),int i64 hx.lies],int i64 k] (grow (redrawn w7 d) os) fun e w''=>e=.returned (.agg #[int i64 (sx 0),int i64 (sx 1),int i64 (sx 2)])∧∃p:Regrown,w''=grow (redrawn w7 p.d) p.os:=fun d os=>CallsIn.regrown_of (cz _ (((M7.out.at_.more M7.out.n0).below (below_regrown w7 d os)).more (below_regrown w7 d os).size))
      have ek:IntKind.i64.wrap ((k:Int)+1)=(k:Int)+1:=IntWalk.i64_in _ zo
      rw[← hw7]
      clear hw7 hx2 QX cz vq hhx hsx x0 xf g1 hnw
      have q0:∀d os,(grow (redrawn w7 d) os).cell? ⟨Bb,0,none⟩=some (int i64 days):=cell_regrown (M7.out.wb.cell 0)
      have q1:∀d os,(grow (redrawn w7 d) os).cell? ⟨Bb,1,none⟩=some (int i64 most):=cell_regrown (M7.out.wb.cell 1)
      have q2:∀d os,(grow (redrawn w7 d) os).cell? ⟨Bb,2,none⟩=some (.slice gA ng gc):=cell_regrown (M7.out.wb.cell 2)
      have q3:∀d os,(grow (redrawn w7 d) os).cell? ⟨Bb,3,none⟩=some (.slice (some ad) nm mc):=cell_regrown (M7.out.wb.cell 3)
      have q4:∀d os,(grow (redrawn w7 d) os).cell? ⟨Bb,4,none⟩=some (.slice cA nc cc):=cell_regrown (M7.out.wb.cell 4)
      have q5:∀d os,(grow (redrawn w7 d) os).cell? ⟨Bf,0,none⟩=some (.func (.func 102) #[] #[.pointer (some ⟨Bb,0,none⟩),.pointer (some ⟨By,0,none⟩),.pointer (some ⟨Bf,0,none⟩)]):=cell_regrown (M7.out.wf.cell 0)
      have r0:=cell_regrown (S7.out.cell 0)
      have r1:=cell_regrown (S7.out.cell 1)
      have r2:=cell_regrown (S7.out.cell 2)
      have y0:=cell_regrown (W7.out.cell 0)
      have y1:=cell_regrown (W7.out.cell 1)
      have y2:=cell_regrown (W7.out.cell 2)
      have y3:=cell_regrown (W7.out.cell 3)
      have y4:=cell_regrown (W7.out.cell 4)
      have y5:=cell_regrown (W7.out.cell 5)
      have y6:=cell_regrown (W7.out.cell 6)
      have y7:=cell_regrown (W7.out.cell 7)
      have y8:=cell_regrown (W7.out.cell 8)
      have y9:=cell_regrown (W7.out.cell 9)
      refine aK 9 rfl zk zk ?_
      simp only[List.take_succ_cons,List.take_zero,List.drop_succ_cons,List.drop_zero]
      repeat (quiet_step_in (exact So _ _))
      refine wpQuietIn_nil ?_
      rintro w' ⟨⟨dq,osq⟩,rfl⟩
      have bD:=below_regrown w7 dq osq
      clear q0 q1 q2 q3 q4 q5 r0 r1 r2 y0 y1 y2 y3 y4 y5 y6 y7 y8 y9 So ek
      generalize grow (redrawn w7 dq) osq=w9 at bD⊢
      have K9:Hid (Keeps (fun x=>C x∨x=W.heap.size) wr w9):=hid (K7.out.trans (Keeps.bJ bD))
      have BV:Hid (Keeps C W w9):=hid (BT.out.trans (Keeps.bJ bD))
      have M9:=hid (HM.out.keeps BV.out)
      have W9:=hid (W7.out.below bD W7.out.lt)
      have J9:=hid (bt.out _ _ _ J7.out (bD.mono (Nat.le_trans Na.out.size BT.out.size)))
      obtain⟨rest,hrest⟩:∃rest,rest=((bC lo cnt).drop (i+1)).flatMap FL:=⟨_,rfl⟩
      have e:(bC lo cnt).flatMap FL=(bC lo i).flatMap FL ++ (FL nv ++ rest):=by
       rw[hrest]
       have h1:bC lo cnt=bC lo i ++ nv :: (bC lo cnt).drop (i+1):=by
        have h2:(bC lo cnt).take i=bC lo i:=by
         unfold bC
         rw[← List.map_take,List.take_range,Nat.min_eq_left zo]
        have h3:(bC lo cnt)[i]'(by simp[bC];exact hic)=nv:=by rw[Lh.out];simp[bC]
        have h4:=List.take_append_drop i (bC lo cnt)
        rw[h2,List.drop_eq_getElem_cons (by simp[bC];exact hic),h3] at h4
        exact h4.symm
       rw[h1,List.flatMap_append,List.flatMap_cons]
       congr 2
       rw[← h1]
      have HE:=hid e
      have hpx:(pre ++ (bC lo i).flatMap FL) ++ FL nv<+:xs:=by
       have h:=AI.out
       rw[e] at h
       exact List.IsPrefix.trans ⟨rest,zs⟩ h
      have YZ:=hid hpx
      clear bD hpx e hrest
      gi_wp2_with (gi_at_call 102;refine(HcI.out (pre ++ (bC lo i).flatMap FL) w9 M9.out (Na.out.trans BV.out) J9.out YZ.out).mono ?_;rintro e W5 ⟨hk5,(⟨rfl,di⟩|⟨rfl,q,hq,hx5⟩)⟩)
      ·refine⟨⟨i+1,zo,by rw[Lh.out,mx.out];congr 1;push_cast;omega,fun i=>if i=k then nv else hm i,hid ⟨hT.out.1.trans (K9.out.trans (hk5.more fun b _ h=>.inl h)),?_,fun x=>?_,?_⟩⟩,?_⟩
       ·have:=W9.out.keeps hk5 (ux.out _ (Nat.le_refl _))
        rw[← HX2.out]
        exact this
       ·rw[← hT.out.2.2.1 x]
        unfold bH
        simp only
        congr 1
        funext y
        split <;> rfl
       ·rw[mJ,List.flatMap_append,← List.append_assoc,← Lh.out]
        simpa using di
       ·have h1:=mx.out
        have h2:=Lh.out
        have h3:=HC.out
        rw[h2,h1]
        simp only[intOf]
        omega
      ·go_ret
       refine⟨BV.out.trans hk5,.inr ⟨rfl,(bC lo i).flatMap FL ++ q,?_,by rw[← List.append_assoc];exact hx5⟩⟩
       rw[HE.out]
       obtain⟨r,hr⟩:=hq
       exact⟨r ++ rest,by rw[← hr];simp⟩
     ·obtain rfl:i=cnt:=zo
      have hd:decide (lo+(i:Int)≤hi)=false:=decide_eq_false (by have:=HC.out;omega)
      gi_wp2
      go_ret
      exact⟨N'.out,.inl ⟨rfl,hT.out.2.2.2⟩⟩
theorem UN{p:FuncId→Prop}[Aa p](b:Bk)(lies:Nat)(w:World):CallsIn (FW p) 0 prog 78 #[b.val,int i64 lies] w fun e w'=>e=.returned (.func (.func 101) #[] #[.pointer (some ⟨w.heap.size,0,none⟩),.pointer (some ⟨w.heap.size+1,0,none⟩)])∧
 Whole w' w.heap.size 74 b.cells∧Whole w' (w.heap.size+1) 3 #[int i64 lies]∧Below w.heap.size w w'∧w'.heap.size=w.heap.size+2:=by
 obtain⟨days,most,gA,ng,gc,g,mA,nm,mc,m,cA,nc,cc,c⟩:=b
 simp only[Bk.val,Bk.cells]
 gi_enter func78,ntmps78
 gi_wp2
 go_ret
 have e2:=Whole.new (w.alloc (.cells #[int i64 days,int i64 most,.slice gA ng gc,.slice mA nm mc,.slice cA nc cc] 74)) 3 #[int i64 lies]
 rw[World.size_alloc] at e2
 exact⟨rfl,(Whole.new _ _ _).alloc _,e2,bw,zs⟩
theorem UF{p:FuncId→Prop}[Aa p](b:Bk)(ok:b.Ok)(lies:Nat)(hl:lies<64)(C:Nat→Prop)(N0 Bb Bl:Nat)(W:World)(hC:∀x,C x→x<W.heap.size)
 (hb:Whole W Bb 74 b.cells)(hw:Whole W Bl 3 #[int i64 lies])(hA:b.At W N0)(hN:N0≤W.heap.size)(cb:¬ C Bb)(cl:¬ C Bl)(cn:∀x,x<N0→¬ C x):
 Iter (FW p) prog 101 #[.pointer (some ⟨Bb,0,none⟩),.pointer (some ⟨Bl,0,none⟩)] (fun h:Ht=>#[h.val]) (dD b lies) C W:=by
 intro l J Jx hJ hJx hY h0
 show CallsIn (FW p) 0 prog 101 #[.func (.yield l) #[] #[],.pointer (some ⟨Bb,0,none⟩),.pointer (some ⟨Bl,0,none⟩)] W _
 have vn:∀w,b.At w w.heap.size→CallsIn (FW p) 0 prog 105 #[b.val] w fun e w'=>∃A p,e=.returned (.slice A (aS b b.ng).length p)∧Rows w' w'.heap.size 3 A (aS b b.ng).length (fun i j=>int i64 ((aS b b.ng).getD i (fun _=>0) j))∧(∀ad,A=some ad→w.heap.size<ad.block)∧Below w.heap.size w w':=fun w hA=>CallsIn.wide (RP b w hA ok.bM)
 obtain⟨F,hF⟩:∃F:St→List Ht,F=fun s=>dO b b.nm 0 ⟨s,fun _=>0,lies⟩ s:=⟨_,rfl⟩
 obtain⟨L,hL⟩:∃L,L=aS b b.ng:=⟨_,rfl⟩
 have hxs:dD b lies=L.flatMap F:=by rw[hL,hF];rfl
 have DQ:∀s∈L,∀q,q<3→0≤s q∧s q≤99:=by rw[hL];exact sS b ok.bM b.ng (Nat.le_refl _)
 have hlen:L.length≤27:=by rw[hL];exact Nat.le_trans (l9 b ok.bM b.ng (Nat.le_refl _)) (Nat.le_trans (Nat.pow_le_pow_right zD ok.bM.1.2) zD)
 rw[← hL] at vn
 have Zk:=fun By Bf pre s W'=>dc b ok C N0 Bb By Bf l W J Jx (dD b lies) hC hJ hY b.nm 0 ⟨s,fun _=>0,lies⟩ s pre W' zo
 have CH:∀By Bf pre s W',s∈L→FM b C N0 Bb By Bf l W'→Keeps C W W'→J pre W'→(pre ++ F s)<+:L.flatMap F→CallsIn (FW p) 0 prog 102 #[(⟨s,fun _=>0,lies⟩:Ht).val,lY s,int i64 0,.pointer (some ⟨Bb,0,none⟩),.pointer (some ⟨By,0,none⟩),.pointer (some ⟨Bf,0,none⟩)] W' fun e W2=>Keeps C W' W2∧((e=.returned (.bool true)∧J (pre ++ F s) W2)∨(e=.returned (.bool false)∧∃q,q<+:F s∧Jx (pre ++ q) W2)):=fun By Bf pre s W' hs hM hK hj hp=>by
  have:=Zk By Bf pre s W' hM hK hj (by rw[hxs,hF] at *;exact hp) (fun q hq=>by have:=DQ s hs q hq;push_cast;omega) hl
  rw[hF]
  exact_mod_cast this
 rw[hxs]
 have hb':=hb
 obtain⟨days,most,gA,ng,gc,g,mA,nm,mc,m,cA,nc,cc,c⟩:=b
 simp only[Bk.val,Bk.cells,lY,Ht.val,Ht.cells] at vn CH
 have HC:=hid hC
 have HJ:=hid hJ
 have mn:=hid vn
 have Zs:=hid CH
 have HLb:=hid DQ
 have HA:=hid hA
 have Qf:=hid cn
 have Hb:=hid hb
 have Hw:=hid hw
 have H0:=hid h0
 have CB:=hid cb
 have CL:=hid cl
 have HN:=hid hN
 clear hC hJ hJx hY vn CH Zk DQ hA cn hb hb' hw h0 hxs hL hF ok cb cl hN
 obtain⟨w2,hw2⟩:∃w2,w2=(W.alloc (.cells #[.func (.yield l) #[] #[]] 107)).alloc (.cells #[.func (.func 102) #[] #[.pointer (some ⟨Bb,0,none⟩),.pointer (some ⟨W.heap.size,0,none⟩),.pointer (some ⟨W.heap.size+1,0,none⟩)]] 142):=⟨_,rfl⟩
 have B2:Hid (Below W.heap.size W w2):=hid (by rw[hw2];exact bw)
 have M2:Hid (FM (⟨days,most,gA,ng,gc,g,mA,nm,mc,m,cA,nc,cc,c⟩:Bk) C N0 Bb W.heap.size (W.heap.size+1) l w2):=hid (by
  have hk:Keeps C W w2:=Keeps.bJ B2.out
  have rf:∀x,W.heap.size≤x→¬ C x:=fun x hx hc=>by have:=HC.out x hc;omega
  refine⟨Hb.out.keeps hk CB.out,by rw[hw2];exact(Whole.new _ _ _).alloc _,?_,HA.out.keeps hk HN.out Qf.out,Nat.le_trans HN.out hk.size,CB.out,rf _ (Nat.le_refl _),rf _ (Nat.le_succ _),Qf.out⟩
  have:=Whole.new (W.alloc (.cells #[.func (.yield l) #[] #[]] 107)) 142 #[.func (.func 102) #[] #[.pointer (some ⟨Bb,0,none⟩),.pointer (some ⟨W.heap.size,0,none⟩),.pointer (some ⟨W.heap.size+1,0,none⟩)]]
  rw[World.size_alloc] at this;rw[hw2];exact this)
 have L2:Hid (Whole w2 Bl 3 #[int i64 lies]):=hid (Hw.out.keeps (Keeps.bJ B2.out) CL.out)
 have hs2:w2.heap.size=W.heap.size+2:=by rw[hw2];simp
 have c0:∀i,w2.cell? ⟨Bb,i,none⟩=(#[int i64 days,int i64 most,.slice gA ng gc,.slice mA nm mc,.slice cA nc cc]:Array Value)[i]?:=M2.out.wb.cell
 rw[hw2] at c0
 have ER:=hid hw2
 clear hw2
 gi_enter func101,ntmps101
 gi_wp2_with (gi_at_call 105;rw[← ER.out];refine(mn.out w2 (M2.out.at_.more M2.out.n0)).mono ?_;rintro e w4 ⟨A,p,rfl,RX,SJ,hb4⟩)
 have K4:Hid (Keeps C W w4):=hid ((Keeps.bJ B2.out).trans (Keeps.bJ hb4))
 have M4:=hid (M2.out.keeps (Keeps.bJ hb4))
 have L4:=hid (L2.out.below hb4 L2.out.lt)
 have J4:Hid (J [] w4):=hid (HJ.out _ _ _ H0.out (B2.out.trans (hb4.mono B2.out.size)))
 have R4:=hid RX
 have A4:=hid SJ
 have hs4:W.heap.size+2≤w4.heap.size:=by have:=hb4.size;omega
 clear B2 M2 L2 c0 ER RX SJ hb4 H0
 gi_loopw [11] (fun i wr=>∃q:Nat,q≤L.length∧i=int i64 q∧Hid (Keeps C w4 wr∧J ((L.take q).flatMap F) wr)) (fun i _=>L.length - (intOf i).toNat)
 case atStart=>exact⟨0,Nat.zero_le _,rfl,hid ⟨Keeps.refl _ _,by simpa using J4.out⟩⟩
 case round=>
  obtain⟨q,hq,rfl,hT⟩:=hrel
  obtain⟨wo,rfl⟩:∃wo:World,wo=wr:=⟨_,rfl⟩
  have hso:W.heap.size+2≤wo.heap.size:=Nat.le_trans hs4 hT.out.1.size
  by_cases hq2:q<L.length
  ·obtain⟨ad,rfl,hab,hrow⟩:=R4.out (show 0<L.length by omega)
   have hnc:¬ C ad.block:=fun hx=>by have:=HC.out _ hx;have:=A4.out ad rfl;omega
   obtain⟨s,hs⟩:∃s,s=L.getD q (fun _=>0):=⟨_,rfl⟩
   have hrw:∀j,j<3→wo.cell? ((ad.add (q * 3)).add j)=some (int i64 (s j)):=fun j hj=>by
    rw[qo,hs]
    exact(hT.out.1.cell (by rw[aH];exact hab) (by rw[aH];exact hnc)).trans (hrow q j hq2 hj)
   have d0:wo.cell? (ad.add (q * 3))=some (int i64 (s 0)):=hrw 0 zD
   have d1:wo.cell? ⟨(ad.add (q * 3)).block,(ad.add (q * 3)).off+1,none⟩=some (int i64 (s 1)):=hrw 1 zD
   have d2:wo.cell? ⟨(ad.add (q * 3)).block,(ad.add (q * 3)).off+2,none⟩=some (int i64 (s 2)):=hrw 2 zD
   have hmem:s∈L:=by rw[hs,List.getD_eq_getElem?_getD,List.getElem?_eq_getElem hq2];exact List.getElem_mem hq2
   have htk:L.take (q+1)=L.take q ++ [s]:=by rw[List.take_add_one,hs,List.getD_eq_getElem?_getD,List.getElem?_eq_getElem hq2];rfl
   have hpx:(L.take q).flatMap F ++ F s<+:L.flatMap F:=by
    have h:=List.take_append_drop (q+1) L
    refine⟨(L.drop (q+1)).flatMap F,?_⟩
    conv=>rhs;rw[← h,htk]
    simp
   obtain⟨wn,hwn⟩:∃wn,wn=wo.alloc (.cells #[int i64 (s 0),int i64 (s 1),int i64 (s 2)] 85):=⟨_,rfl⟩
   have KN:Hid (Keeps C w4 wn):=hid (hT.out.1.trans (Keeps.bJ (by rw[hwn];exact(Below.refl _ _).alloc (Nat.le_refl _) _)))
   have BN:Hid (Below wo.heap.size wo wn):=hid (by rw[hwn];exact(Below.refl _ _).alloc (Nat.le_refl _) _)
   have MN:=hid (M4.out.keeps KN.out)
   have f0:wn.cell? ⟨W.heap.size+1,0,none⟩=some (.func (.func 102) #[] #[.pointer (some ⟨Bb,0,none⟩),.pointer (some ⟨W.heap.size,0,none⟩),.pointer (some ⟨W.heap.size+1,0,none⟩)]):=MN.out.wf.cell 0
   have l0:wn.cell? ⟨Bl,0,none⟩=some (int i64 lies):=(L4.out.keeps KN.out CL.out).cell 0
   have JN:=hid (HJ.out _ _ _ hT.out.2 (BN.out.mono zo))
   have uk:=hid htk
   have YZ:=hid hpx
   have HM:=hid hmem
   rw[hwn] at f0 l0
   have Hwn:=hid hwn
   clear hwn htk hpx hmem hrow hrw hs hnc
   gi_wp2_with (gi_at_call 102;rw[← Hwn.out];refine(Zs.out _ _ _ s wn HM.out MN.out (K4.out.trans KN.out) JN.out YZ.out).mono ?_;rintro e W5 ⟨hk5,(⟨rfl,di⟩|⟨rfl,q5,hq5,hx5⟩)⟩)
   ·refine⟨⟨q+1,hq2,by push_cast;rfl,hid ⟨KN.out.trans hk5,?_⟩⟩,?_⟩
    ·rw[uk.out,List.flatMap_append];simpa using di
    ·simp only[intOf];omega
   ·((try simp only[Exit.inBlock,Exit.then]);first|refine bodyPost_ret (results_none rfl _ _ _) rfl ?_|refine bodyPost_end (results_none rfl _ _ _) rfl ?_)
    exact⟨⟨_,rfl⟩,K4.out.trans (KN.out.trans hk5),.inr ⟨_,List.IsPrefix.trans ((List.prefix_append_right_inj _).2 hq5) YZ.out,hx5⟩⟩
  ·obtain rfl:q=L.length:=zo
   gi_wp2
   ((try simp only[Exit.inBlock,Exit.then]);first|refine bodyPost_ret (results_none rfl _ _ _) rfl ?_|refine bodyPost_end (results_none rfl _ _ _) rfl ?_)
   exact⟨⟨_,rfl⟩,K4.out.trans hT.out.1,.inl (by simpa using hT.out.2)⟩
end
section
open Go.RowKit
def Marks(lo:Nat):Nat→List Deferred→World→Prop
 | _,[],_=>True
 | hi,d :: ds,W=>∃r,d={target:=.collected r,args:=#[] }∧lo≤r∧r<hi∧W.heap[r]? =some (.deferred (some []))∧Marks lo r ds W
theorem Marks.of{lo:Nat}{W B:World}:∀ {ds:List Deferred} {hi:Nat},Marks lo hi ds W→(∀r,lo≤r→r<hi→B.heap[r]? =W.heap[r]?)→Marks lo hi ds B
 | [],_,_,_=>trivial
 | _ :: _,_,h,hb=>by
   obtain⟨r,e,h1,h2,h3,h4⟩:=h
   exact⟨r,e,h1,h2,(hb r h1 h2).trans h3,h4.of fun x hx hx2=>hb x hx zo⟩
theorem Marks.more{lo:Nat}{W:World}{ds:List Deferred}{hi hi':Nat}(h:Marks lo hi ds W)(hh:hi≤hi'):Marks lo hi' ds W:=by
 cases ds with
 | nil=>trivial
 | cons d ds=>
   obtain⟨r,e,h1,h2,h3,h4⟩:=h
   exact⟨r,e,h1,zo,h3,h4⟩
theorem Marks.keeps{lo hi:Nat}{C:Nat→Prop}{W B:World}{ds:List Deferred}(h:Marks lo hi ds W)(hk:Keeps C W B)(hC:∀x,C x→x<lo)(hh:hi≤W.heap.size):Marks lo hi ds B:=
 h.of fun r h1 h2=>hk.block r zo fun hc=>by have:=hC r hc;omega
theorem dw{F:Fence}{n:Nat}{P:Program}{fn:Func}{tmps:Array Value}{R:Ending→World→Prop}{lo:Nat}:∀ {ds:List Deferred} {hi:Nat} {W:World},Marks lo hi ds W→
 (∀B,Below lo W B→∃v,(results fn tmps).run P B=.ok v B∧R (.returned v) B)→lo≤W.heap.size→LeavesInM F n P fn tmps R ds .returning W
 | [],_,W,_,hR,_=>hR W (Below.refl _ _)
 | _ :: ds,_,W,h,hR,hlo=>by
   obtain⟨r,rfl,h1,h2,h3,h4⟩:=h
   have hb:Below lo W (W.putObj r (.deferred none)):=⟨rfl,rfl,rfl,by simp[World.putObj],fun b hb=>World.putObj_heap_other zo⟩
   refine⟨zs,.inl ⟨_,_,rfl,run_takeDeferred h3,?_⟩⟩
   exact dw (h4.of fun x _ hx2=>World.putObj_heap_other zo) (fun B hB=>hR B (hb.trans hB)) (Nat.le_trans hlo hb.size)
theorem Keeps.and{C:Nat→Prop}{n:Nat}{A B D:World}(h:Keeps C A B)(k:Below n B D)(hn:A.heap.size≤n):Keeps C A D:=
 ⟨k.os.trans h.os,k.tape.trans h.tape,k.output.trans h.output,Nat.le_trans h.size k.size,fun b hb hc=>(k.block b zo).trans (h.block b hb hc)⟩
end
end Go.Proofs.YthaelabgfnnebaaGreat
