/- WF0 GF YF -/
import Derived.Test.YthaelabgfnnebaaGreatA8
set_option maxRecDepth 100000
set_option maxHeartbeats 16000000
set_option linter.unusedVariables false
set_option linter.unusedSectionVars false
open Go.IntKind(i64)
open Go.Lib(hid)
open Go.Proofs.Tryz
open Go.Value(int)
namespace Go.Proofs.YthaelabgfnnebaaGreat
section
open Go.RowKit
open Go.Sort (grow)
def bY(h:Ht)(k:Nat)(n:Int):Ht:=⟨h.f,fun i=>if i=k then n else h.m i,h.lies⟩
def iN(b:Bk):Nat→Nat→Ht→(Nat→Int)→List Ht
 | 0,k,h,s=>if iy b s (jf b k) (je b k)=true then[h] else[]
 | Nat.succ n,k,h,s=>if iy b s (jf b k) (je b k)=true then(bH (b.m k).lo ((b.m k).hi - (b.m k).lo+1).toNat).flatMap fun x=>iN b n (k+1) (bY h k x) (Ai b s (bY h k x) k) else[]
def jg(b:Bk)(lies:Nat):List Ht:=(bS b b.ng).flatMap fun s=>iN b b.nm 0 ⟨s,fun _=>0,lies⟩ s
def aC(b:Bk)(ls:List Nat):List Ht:=(ls.filter fun s=>decide (pop s≤b.most)).flatMap fun s=>jg b s
structure FM(b:Bk)(C:Nat→Prop)(N0 Bb By Bf l:Nat)(W:World):Prop where
 wb:Whole W Bb 74 b.cells
 wy:Whole W By 107 #[.func (.yield l) #[] #[]]
 wf:Whole W Bf 142 #[.func (.func 102) #[] #[.pointer (some ⟨Bb,0,none⟩),.pointer (some ⟨By,0,none⟩),.pointer (some ⟨Bf,0,none⟩)]]
 at_:b.At W N0
 n0:N0≤W.heap.size
 cb:¬ C Bb
 cy:¬ C By
 cf:¬ C Bf
 cn:∀x,x<N0→¬ C x
theorem Whole.keeps{C:Nat→Prop}{w w':World}{b:Nat}{t:TypeId}{cs:Array Value}(h:Whole w b t cs)(hk:Keeps C w w')(hc:¬ C b):Whole w' b t cs:=h.of (hk.block b h.lt hc)
theorem Rows.keeps{C:Nat→Prop}{w w':World}{B size n:Nat}{A:Option Addr}{f:Nat→Nat→Value}(h:Rows w B size A n f)(hk:Keeps C w w')(hB:B≤w.heap.size)(hc:∀x,x<B→¬ C x):Rows w' B size A n f:=
 h.keep fun p hp=>hk.cell zo (hc _ hp)
theorem Bk.At.keeps{b:Bk}{C:Nat→Prop}{w w':World}{B:Nat}(h:b.At w B)(hk:Keeps C w w')(hB:B≤w.heap.size)(hc:∀x,x<B→¬ C x):b.At w' B:=
 ⟨h.g.keeps hk hB hc,h.m.keeps hk hB hc,h.c.keeps hk hB hc,h.ng,h.nm,h.nc,h.name⟩
theorem FM.keeps{b:Bk}{C:Nat→Prop}{N0 Bb By Bf l:Nat}{W W':World}(h:FM b C N0 Bb By Bf l W)(hk:Keeps C W W'):FM b C N0 Bb By Bf l W':=
 ⟨h.wb.keeps hk h.cb,h.wy.keeps hk h.cy,h.wf.keeps hk h.cf,h.at_.keeps hk h.n0 h.cn,Nat.le_trans h.n0 hk.size,h.cb,h.cy,h.cf,h.cn⟩
theorem ME{f m:Nat→Int}{l k:Nat}(hk:k<6)(n:Int):((⟨f,m,l⟩:Ht).cells).setIfInBounds (3+k) (int i64 n)=(⟨f,fun i=>if i=k then n else m i,l⟩:Ht).cells:=by
 rcases(show k=0∨k=1∨k=2∨k=3∨k=4∨k=5 by omega) with rfl|rfl|rfl|rfl|rfl|rfl <;> rfl
theorem QG{f m:Nat→Int}{l k:Nat}(hk:k<6):((⟨f,m,l⟩:Ht).cells)[3+k]? =some (int i64 (m k)):=by
 rcases(show k=0∨k=1∨k=2∨k=3∨k=4∨k=5 by omega) with rfl|rfl|rfl|rfl|rfl|rfl <;> rfl
theorem Keeps.then{C C1:Nat→Prop}{A B D:World}(h:Keeps C A B)(k:Keeps C1 B D)(hc:∀b,b<A.heap.size→C1 b→C b):Keeps C A D:=
 ⟨k.os.trans h.os,k.tape.trans h.tape,k.output.trans h.output,Nat.le_trans h.size k.size,fun b hb hn=>(k.block b (Nat.lt_of_lt_of_le hb h.size) (fun h1=>hn (hc b hb h1))).trans (h.block b hb hn)⟩
theorem sF(b:Bk)(h:jU b):∀k,k≤b.ng→∀s∈bS b k,∀q,q<3→0≤s q∧s q≤99
 | 0,_,s,hs,q,_=>by
   obtain rfl:s=fun _=>0:=by simpa [bS] using hs
   simp
 | Nat.succ k,hk,s,hs,q,hq=>by
   have hf:=kY (h.2 k zo).few
   simp only[bS] at hs
   obtain⟨s0,hs0,hs1⟩:=List.mem_flatMap.1 hs
   obtain⟨n,hn,rfl⟩:=List.mem_map.1 hs1
   have ih:=sF b h k zo s0 hs0 q hq
   unfold bH at hn
   obtain⟨i,hi,rfl⟩:=List.mem_map.1 hn
   have hi':=List.mem_range.1 hi
   unfold ext
   split <;> omega
end
section
open Go
def FW(p:FuncId→Prop):Fence:={fn:=p }
@[simp] theorem k9(p:FuncId→Prop):(FW p).depth=none:=rfl
@[simp] theorem la(p:FuncId→Prop):(FW p).round=none:=rfl
class yA(p:FuncId→Prop):Prop where
 fn:∀g,SF.fn g→p g
instance:yA SF.fn:=⟨fun _ h=>h⟩
instance:yA FF.fn:=⟨fun _ h=>Gd h⟩
section
variable{p:FuncId→Prop}[yA p]
@[simp] theorem D8{g:FuncId}(h:SF.fn g):(FW p).fn g:=show p g from yA.fn g h
theorem CallsIn.wide{n:Nat}{P:Program}{f:FuncId}{args:Array Value}{w:World}{R:Ending→World→Prop}(h:CallsIn SF n P f args w R):CallsIn (FW p) n P f args w R:=by
 refine⟨D8 h.1,fun cs _=>?_⟩
 obtain⟨e,w',fr,r,hs,rest⟩:=h.2 cs (fun d hd=>by cases hd)
 have hm:∀m:Machine,m.fenced P SF→m.fenced P (FW p):=fun m hm g hg=>by
  obtain⟨a,b,c,d⟩:=hm g hg
  exact⟨a,b.imp D8 id,fun f hf=>D8 (c f hf),fun d hd=>by cases hd⟩
 refine⟨e,w',fr,r,?_,rest⟩
 cases e with
 | returned v=>exact fH hm hs
 | panicked c=>exact fH hm hs
 | outgrown=>exact hs
end
end
section
open Go.RowKit
open Go.Sort (grow)
attribute [local go_sem] Oper.semAt_some
theorem ZW{p:FuncId→Prop}[yA p](b:Bk)(ok:b.Ok)(C:Nat→Prop)(N0 Bb By Bf l:Nat)(W0:World)(J Jx:List Ht→World→Prop)(xs:List Ht)(hC:∀x,C x→x<W0.heap.size)
 (hJ:∀pre A B,J pre A→Below W0.heap.size A B→J pre B)
 (hY:∀pre x A,pre ++ [x]<+:xs→J pre A→Keeps C W0 A→YieldAt (FW p) 0 prog l #[x.val] A fun e B=>Keeps C A B∧((e=.returned (.bool true)∧J (pre ++ [x]) B)∨(e=.returned (.bool false)∧Jx (pre ++ [x]) B))):
 ∀ (fuel k:Nat) (h:Ht) (s:Nat→Int) (pre:List Ht) (W:World),k+fuel=b.nm→FM b C N0 Bb By Bf l W→Keeps C W0 W→J pre W→(pre ++ iN b fuel k h s)<+:xs→(∀q,q<3→-99 * (k:Int)≤s q∧s q≤99 * ((k:Int)+1))→h.lies<64→
   CallsIn (FW p) 0 prog 102 #[h.val,lH s,int i64 k,.pointer (some ⟨Bb,0,none⟩),.pointer (some ⟨By,0,none⟩),.pointer (some ⟨Bf,0,none⟩)] W fun e W'=>Keeps C W W'∧((e=.returned (.bool true)∧J (pre ++ iN b fuel k h s) W')∨(e=.returned (.bool false)∧∃q,q<+:iN b fuel k h s∧Jx (pre ++ q) W')):=by
 have So:=hid hC
 have Zt:=hid hJ
 have Ss:=hid hY
 clear hC hJ hY
 intro fuel
 induction fuel with
 | zero=>
   intro k h s pre W hkn hM fR hj hpre hs hl
   have Rf:=ok.moves.1
   have CP:∀w,b.At w w.heap.size→CallsIn (FW p) 0 prog 104 #[b.val,int i64 k] w fun e w'=>e=.returned (.agg #[int i64 (jf b k),int i64 (je b k)])∧Below w.heap.size w w':=fun w hA=>CallsIn.wide (Bv b k w hA zo ok.moves.1 (fun i hi=>by have:=(ok.moves.2 i hi).day;have:=ok.days;omega))
   have QD:∀w,b.At w w.heap.size→CallsIn (FW p) 0 prog 103 #[b.val,lH s,.agg #[int i64 (jf b k),int i64 (je b k)]] w fun e w'=>e=.returned (.bool (iy b s (jf b k) (je b k)))∧Below w.heap.size w w':=fun w hA=>CallsIn.wide (Az b s _ _ w hA ok.counts.1 (fun i hi=>by have:=(ok.counts.2 i hi).good;have:=ok.bJ.1;omega))
   obtain⟨L1,hL1⟩:∃x,x=jf b k:=⟨_,rfl⟩
   obtain⟨L2,hL2⟩:∃x,x=je b k:=⟨_,rfl⟩
   obtain⟨R,hR⟩:∃R,R=iy b s (jf b k) (je b k):=⟨_,rfl⟩
   have hfl:iN b 0 k h s=if R=true then[h] else[]:=by rw[hR];rfl
   rw[← hL1,← hL2] at CP QD
   rw[← hL1,← hL2] at hR
   rw[← hR] at QD
   rw[hfl] at hpre⊢
   have hbk:b.nm=k:=zo
   clear hfl hL1 hL2 hR hs
   obtain⟨days,most,gA,ng,gc,g,mA,nm,mc,m,cA,nc,cc,c⟩:=b
   simp only at Rf hbk
   subst hbk
   have hdk:decide ((nm:Int)=(nm:Int))=true:=decide_eq_true rfl
   have PT:=hid ok
   clear ok hkn
   obtain⟨hf,hmm,lies⟩:=h
   simp only[Bk.val,Bk.cells,lH] at CP QD
   have Ze:=hid CP
   have uc:=hid QD
   have HM:=hid hM
   have Mc:=hid fR
   have ib:=hid hj
   have iz:=hid hpre
   clear CP QD hM fR hj hpre
   simp only[lH,Ht.val,Ht.cells]
   obtain⟨w2,hw2⟩:∃w2,w2=(W.alloc (.cells #[int i64 (hf 0),int i64 (hf 1),int i64 (hf 2),int i64 (hmm 0),int i64 (hmm 1),int i64 (hmm 2),int i64 (hmm 3),int i64 (hmm 4),int i64 (hmm 5),int i64 lies] 88)).alloc (.cells #[int i64 (s 0),int i64 (s 1),int i64 (s 2)] 85):=⟨_,rfl⟩
   have H2:Hid (Whole w2 W.heap.size 88 #[int i64 (hf 0),int i64 (hf 1),int i64 (hf 2),int i64 (hmm 0),int i64 (hmm 1),int i64 (hmm 2),int i64 (hmm 3),int i64 (hmm 4),int i64 (hmm 5),int i64 lies]):=hid (by rw[hw2];exact(Whole.new _ _ _).alloc _)
   have S2:Hid (Whole w2 (W.heap.size+1) 85 #[int i64 (s 0),int i64 (s 1),int i64 (s 2)]):=hid (by
    have:=Whole.new (W.alloc (.cells #[int i64 (hf 0),int i64 (hf 1),int i64 (hf 2),int i64 (hmm 0),int i64 (hmm 1),int i64 (hmm 2),int i64 (hmm 3),int i64 (hmm 4),int i64 (hmm 5),int i64 lies] 88)) 85 #[int i64 (s 0),int i64 (s 1),int i64 (s 2)]
    rw[World.size_alloc] at this;rw[hw2];exact this)
   have B2:Hid (Below W.heap.size W w2):=hid (by rw[hw2];exact bw)
   have M2:=hid (HM.out.keeps (Keeps.bG B2.out))
   have Ei:=hid hw2
   clear hw2
   have q0:∀d os,(grow (redrawn w2 d) os).cell? ⟨Bb,0,none⟩=some (int i64 days):=cell_regrown (M2.out.wb.cell 0)
   have q1:∀d os,(grow (redrawn w2 d) os).cell? ⟨Bb,1,none⟩=some (int i64 most):=cell_regrown (M2.out.wb.cell 1)
   have q2:∀d os,(grow (redrawn w2 d) os).cell? ⟨Bb,2,none⟩=some (.slice gA ng gc):=cell_regrown (M2.out.wb.cell 2)
   have q3:∀d os,(grow (redrawn w2 d) os).cell? ⟨Bb,3,none⟩=some (.slice mA nm mc):=cell_regrown (M2.out.wb.cell 3)
   have q4:∀d os,(grow (redrawn w2 d) os).cell? ⟨Bb,4,none⟩=some (.slice cA nc cc):=cell_regrown (M2.out.wb.cell 4)
   have r0:=cell_regrown (S2.out.cell 0)
   have r1:=cell_regrown (S2.out.cell 1)
   have r2:=cell_regrown (S2.out.cell 2)
   have cS:∀d os,CallsIn (FW p) 0 prog 104 #[.agg #[int i64 days,int i64 most,.slice gA ng gc,.slice mA nm mc,.slice cA nc cc],int i64 nm] (grow (redrawn w2 d) os) fun e w''=>e=.returned (.agg #[int i64 L1,int i64 L2])∧∃p:Regrown,w''=grow (redrawn w2 p.d) p.os:=fun d os=>CallsIn.regrown_of (Ze.out _ (((M2.out.at_.more M2.out.n0).below (below_regrown w2 d os)).more (below_regrown w2 d os).size))
   have cR:∀d os,CallsIn (FW p) 0 prog 103 #[.agg #[int i64 days,int i64 most,.slice gA ng gc,.slice mA nm mc,.slice cA nc cc],.agg #[int i64 (s 0),int i64 (s 1),int i64 (s 2)],.agg #[int i64 L1,int i64 L2]] (grow (redrawn w2 d) os) fun e w''=>e=.returned (.bool R)∧∃p:Regrown,w''=grow (redrawn w2 p.d) p.os:=fun d os=>CallsIn.regrown_of (uc.out _ (((M2.out.at_.more M2.out.n0).below (below_regrown w2 d os)).more (below_regrown w2 d os).size))
   gi_enter func102,ntmps102
   gi_wp2
   rw[← Ei.out]
   cases R
   ·refine wpIn_region_quiet_below rfl zk zk ?_
    repeat (quiet_step_in (first|exact cS _ _|exact cR _ _))
    refine wpQuietIn_nil ?_
    rintro w' ⟨⟨dq,osq⟩,rfl⟩
    have aY:=below_regrown w2 dq osq
    clear q0 q1 q2 q3 q4 r0 r1 r2 cS cR
    generalize grow (redrawn w2 dq) osq=w3 at aY⊢
    gi_wp2
    go_ret
    have hb:Below W.heap.size W w3:=B2.out.trans (aY.mono B2.out.size)
    exact⟨Keeps.bG hb,.inl ⟨rfl,by simpa using Zt.out _ _ _ ib.out (hb.mono Mc.out.size)⟩⟩
   ·refine wpIn_region_quiet_below rfl zk zk ?_
    repeat (quiet_step_in (first|exact cS _ _|exact cR _ _))
    refine wpQuietIn_nil ?_
    rintro w' ⟨⟨dq,osq⟩,rfl⟩
    have aY:=below_regrown w2 dq osq
    clear q0 q1 q2 q3 q4 r0 r1 r2 cS cR
    generalize grow (redrawn w2 dq) osq=w3 at aY⊢
    have H3:=hid (H2.out.below aY H2.out.lt)
    have hb:Below W.heap.size W w3:=B2.out.trans (aY.mono B2.out.size)
    have M3:=hid (HM.out.keeps (Keeps.bG hb))
    have J3:=Zt.out _ _ _ ib.out (hb.mono Mc.out.size)
    have K3:=Mc.out.trans (Keeps.bG hb)
    have ft:Hid (Keeps C W w3):=hid (Keeps.bG hb)
    obtain⟨fn,tmps,SU,bd,hy,fW⟩:=Ss.out pre ⟨hf,hmm,lies⟩ w3 (by simpa using iz.out) J3 K3
    simp only[Ht.val,Ht.cells] at hy
    have c3:∀i,w3.cell? ⟨Bb,i,none⟩=(#[int i64 days,int i64 most,.slice gA ng gc,.slice mA nm mc,.slice cA nc cc]:Array Value)[i]?:=M3.out.wb.cell
    have y3:w3.cell? ⟨By,0,none⟩=some (.func (.yield l) #[] #[]):=M3.out.wy.cell 0
    have h3:=H3.out.cell
    have ub:=hid fW
    clear aY hb H2 S2 B2 M2 Ei iz J3 K3 fW
    gi_wp2
    refine ub.out.mono ?_
    rintro e W5 ⟨hk5,(⟨rfl,Z6⟩|⟨rfl,hx5⟩)⟩
    ·gi_wp2
     go_ret
     exact⟨ft.out.trans hk5,.inl ⟨rfl,by simpa using Z6⟩⟩
    ·gi_wp2
     go_ret
     exact⟨ft.out.trans hk5,.inr ⟨rfl,[⟨hf,hmm,lies⟩],zs,hx5⟩⟩
 | succ fuel ih=>
   intro k h s pre W hkn hM fR hj hpre hs hl
   have Rf:=ok.moves.1
   have B6:=ok.moves.2 k zo
   have hsz0:=fR.size
   have CP:∀w,b.At w w.heap.size→CallsIn (FW p) 0 prog 104 #[b.val,int i64 k] w fun e w'=>e=.returned (.agg #[int i64 (jf b k),int i64 (je b k)])∧Below w.heap.size w w':=fun w hA=>CallsIn.wide (Bv b k w hA zo ok.moves.1 (fun i hi=>by have:=(ok.moves.2 i hi).day;have:=ok.days;omega))
   have QD:∀w,b.At w w.heap.size→CallsIn (FW p) 0 prog 103 #[b.val,lH s,.agg #[int i64 (jf b k),int i64 (je b k)]] w fun e w'=>e=.returned (.bool (iy b s (jf b k) (je b k)))∧Below w.heap.size w w':=fun w hA=>CallsIn.wide (Az b s _ _ w hA ok.counts.1 (fun i hi=>by have:=(ok.counts.2 i hi).good;have:=ok.bJ.1;omega))
   obtain⟨L1,hL1⟩:∃x,x=jf b k:=⟨_,rfl⟩
   obtain⟨L2,hL2⟩:∃x,x=je b k:=⟨_,rfl⟩
   obtain⟨R,hR⟩:∃R,R=iy b s (jf b k) (je b k):=⟨_,rfl⟩
   have hfl:iN b (fuel+1) k h s=if R=true then(bH (b.m k).lo ((b.m k).hi - (b.m k).lo+1).toNat).flatMap fun x=>iN b fuel (k+1) (bY h k x) (Ai b s (bY h k x) k) else[]:=by rw[hR];rfl
   rw[← hL1,← hL2] at CP QD
   rw[← hL1,← hL2] at hR
   rw[← hR] at QD
   rw[hfl] at hpre⊢
   have ZJ:∀x w,0≤x→x≤99→b.At w w.heap.size→CallsIn (FW p) 0 prog 79 #[b.val,lH s,(bY h k x).val,int i64 k] w fun e w'=>e=.returned (lH (Ai b s (bY h k x) k))∧Below w.heap.size w w':=fun x w hx1 hx2 hA=>CallsIn.wide (Go.Proofs.YthaelabgfnnebaaGreat.W.uR b s (bY h k x) k w hA zo B6 ok.bJ.1.2 zo hl (fun q hq=>by have:=hs q hq;omega) (by
    unfold Ht.real
    split
    ·omega
    ·simp[bY];omega))
   have hsA:∀x,0≤x→x≤99→∀q,q<3→-99 * ((k+1:Nat):Int)≤Ai b s (bY h k x) k q∧Ai b s (bY h k x) k q≤99 * (((k+1:Nat):Int)+1):=fun x hx1 hx2 q hq=>by
    have h1:=hs q hq
    have h2:0≤(bY h k x).real k∧(bY h k x).real k≤99:=by
     unfold Ht.real
     split
     ·omega
     ·simp[bY];omega
    unfold Ai Yj
    push_cast
    split <;> (try split) <;> omega
   have Vq:=kY B6.few
   obtain⟨AF,rq⟩:∃AF,AF=fun x=>Ai b s (bY h k x) k:=⟨_,rfl⟩
   obtain⟨FL,rB⟩:∃FL,FL=fun x=>iN b fuel (k+1) (bY h k x) (AF x):=⟨_,rfl⟩
   have mw:(fun x=>iN b fuel (k+1) (bY h k x) (Ai b s (bY h k x) k))=FL:=by rw[rB,rq]
   rw[mw] at hpre⊢
   have L5:∀x pre W,0≤x→x≤99→FM b C N0 Bb By Bf l W→Keeps C W0 W→J pre W→(pre ++ FL x)<+:xs→CallsIn (FW p) 0 prog 102 #[(bY h k x).val,lH (AF x),int i64 ((k:Int)+1),.pointer (some ⟨Bb,0,none⟩),.pointer (some ⟨By,0,none⟩),.pointer (some ⟨Bf,0,none⟩)] W fun e W'=>Keeps C W W'∧((e=.returned (.bool true)∧J (pre ++ FL x) W')∨(e=.returned (.bool false)∧∃q,q<+:FL x∧Jx (pre ++ q) W')):=fun x pre W h1 h2 hM hK hj hp=>by
    have:=ih (k+1) (bY h k x) (AF x) pre W zo hM hK hj (by rw[rB] at hp;exact hp) (by rw[rq];exact hsA x h1 h2) hl
    rw[rB]
    exact_mod_cast this
   have kp:∀x w,0≤x→x≤99→b.At w w.heap.size→CallsIn (FW p) 0 prog 79 #[b.val,lH s,(bY h k x).val,int i64 k] w fun e w'=>e=.returned (lH (AF x))∧Below w.heap.size w w':=by rw[rq];exact ZJ
   have hbk:b.nm=k+(fuel+1):=hkn.symm
   have hM0:=hM
   clear ih ZJ hsA hfl mw rB rq hL1 hL2 hR hs B6
   obtain⟨cnt,hcnt⟩:∃cnt,cnt=((b.m k).hi - (b.m k).lo+1).toNat:=⟨_,rfl⟩
   rw[← hcnt] at hpre⊢
   obtain⟨days,most,gA,ng,gc,g,mA,nm,mc,m,cA,nc,cc,c⟩:=b
   obtain⟨lo,hlo⟩:∃lo,lo=(m k).lo:=⟨_,rfl⟩
   obtain⟨hi,hhi⟩:∃hi,hi=(m k).hi:=⟨_,rfl⟩
   simp only at Rf hbk Vq hcnt hpre
   rw[← hlo,← hhi] at Vq hcnt
   rw[← hlo] at hpre
   simp only
   rw[← hlo]
   have hc3:cnt≤3:=zo
   have HC:Hid ((cnt:Int)=hi - lo+1):=hid zo
   have HF:=hid Vq
   clear hcnt Vq
   have HKN:=hid hbk
   have PT:=hid ok
   clear hkn ok
   have hdk:decide ((k:Int)=(nm:Int))=false:=decide_eq_false zo
   have T0:((k:Int) == (nm:Int))=false:=zm
   obtain⟨ad,hA',-,-⟩:=hM.at_.m (show 0<nm by omega)
   have hkl:k<nm:=zo
   clear hbk hsz0
   simp only at hA'
   subst hA'
   have row:∀w',Keeps C W w'→w'.cell? ⟨(ad.add (k * 5)).block,(ad.add (k * 5)).off+3,none⟩=some (int i64 lo)∧w'.cell? ⟨(ad.add (k * 5)).block,(ad.add (k * 5)).off+3+1,none⟩=some (int i64 hi):=fun w' hk=>by
    have hr:=(hM.keeps hk).at_.m.row hkl
    rw[hlo,hhi]
    exact⟨hr.2 3 zD,hr.2 4 zD⟩
   have Row:=hid row
   clear row hlo hhi
   obtain⟨hf,hmm,lies⟩:=h
   simp only[Bk.val,Bk.cells,lH] at CP QD
   have Ze:=hid CP
   have uc:=hid QD
   have tj:=hid kp
   have Pu:=hid L5
   have HM:=hid hM
   clear CP QD kp L5 hM0 hM
   have Mc:=hid fR
   have ib:=hid hj
   have iz:=hid hpre
   clear fR hj hpre
   simp only[lH,Ht.val,Ht.cells]
   obtain⟨w2,hw2⟩:∃w2,w2=(W.alloc (.cells #[int i64 (hf 0),int i64 (hf 1),int i64 (hf 2),int i64 (hmm 0),int i64 (hmm 1),int i64 (hmm 2),int i64 (hmm 3),int i64 (hmm 4),int i64 (hmm 5),int i64 lies] 88)).alloc (.cells #[int i64 (s 0),int i64 (s 1),int i64 (s 2)] 85):=⟨_,rfl⟩
   have H2:Hid (Whole w2 W.heap.size 88 #[int i64 (hf 0),int i64 (hf 1),int i64 (hf 2),int i64 (hmm 0),int i64 (hmm 1),int i64 (hmm 2),int i64 (hmm 3),int i64 (hmm 4),int i64 (hmm 5),int i64 lies]):=hid (by rw[hw2];exact(Whole.new _ _ _).alloc _)
   have S2:Hid (Whole w2 (W.heap.size+1) 85 #[int i64 (s 0),int i64 (s 1),int i64 (s 2)]):=hid (by
    have:=Whole.new (W.alloc (.cells #[int i64 (hf 0),int i64 (hf 1),int i64 (hf 2),int i64 (hmm 0),int i64 (hmm 1),int i64 (hmm 2),int i64 (hmm 3),int i64 (hmm 4),int i64 (hmm 5),int i64 lies] 88)) 85 #[int i64 (s 0),int i64 (s 1),int i64 (s 2)]
    rw[World.size_alloc] at this;rw[hw2];exact this)
   have B2:Hid (Below W.heap.size W w2):=hid (by rw[hw2];exact bw)
   have M2:=hid (HM.out.keeps (Keeps.bG B2.out))
   have Ei:=hid hw2
   clear hw2
   have q0:∀d os,(grow (redrawn w2 d) os).cell? ⟨Bb,0,none⟩=some (int i64 days):=cell_regrown (M2.out.wb.cell 0)
   have q1:∀d os,(grow (redrawn w2 d) os).cell? ⟨Bb,1,none⟩=some (int i64 most):=cell_regrown (M2.out.wb.cell 1)
   have q2:∀d os,(grow (redrawn w2 d) os).cell? ⟨Bb,2,none⟩=some (.slice gA ng gc):=cell_regrown (M2.out.wb.cell 2)
   have q3:∀d os,(grow (redrawn w2 d) os).cell? ⟨Bb,3,none⟩=some (.slice (some ad) nm mc):=cell_regrown (M2.out.wb.cell 3)
   have q4:∀d os,(grow (redrawn w2 d) os).cell? ⟨Bb,4,none⟩=some (.slice cA nc cc):=cell_regrown (M2.out.wb.cell 4)
   have r0:=cell_regrown (S2.out.cell 0)
   have r1:=cell_regrown (S2.out.cell 1)
   have r2:=cell_regrown (S2.out.cell 2)
   have cS:∀d os,CallsIn (FW p) 0 prog 104 #[.agg #[int i64 days,int i64 most,.slice gA ng gc,.slice (some ad) nm mc,.slice cA nc cc],int i64 k] (grow (redrawn w2 d) os) fun e w''=>e=.returned (.agg #[int i64 L1,int i64 L2])∧∃p:Regrown,w''=grow (redrawn w2 p.d) p.os:=fun d os=>CallsIn.regrown_of (Ze.out _ (((M2.out.at_.more M2.out.n0).below (below_regrown w2 d os)).more (below_regrown w2 d os).size))
   have cR:∀d os,CallsIn (FW p) 0 prog 103 #[.agg #[int i64 days,int i64 most,.slice gA ng gc,.slice (some ad) nm mc,.slice cA nc cc],.agg #[int i64 (s 0),int i64 (s 1),int i64 (s 2)],.agg #[int i64 L1,int i64 L2]] (grow (redrawn w2 d) os) fun e w''=>e=.returned (.bool R)∧∃p:Regrown,w''=grow (redrawn w2 p.d) p.os:=fun d os=>CallsIn.regrown_of (uc.out _ (((M2.out.at_.more M2.out.n0).below (below_regrown w2 d os)).more (below_regrown w2 d os).size))
   gi_enter func102,ntmps102
   gi_wp2
   rw[← Ei.out]
   cases R
   ·refine wpIn_region_quiet_below rfl zk zk ?_
    repeat (quiet_step_in (first|exact cS _ _|exact cR _ _))
    refine wpQuietIn_nil ?_
    rintro w' ⟨⟨dq,osq⟩,rfl⟩
    have aY:=below_regrown w2 dq osq
    clear q0 q1 q2 q3 q4 r0 r1 r2 cS cR
    generalize grow (redrawn w2 dq) osq=w3 at aY⊢
    gi_wp2
    go_ret
    have hb:Below W.heap.size W w3:=B2.out.trans (aY.mono B2.out.size)
    exact⟨Keeps.bG hb,.inl ⟨rfl,by simpa using Zt.out _ _ _ ib.out (hb.mono Mc.out.size)⟩⟩
   ·refine wpIn_region_quiet_below rfl zk zk ?_
    repeat (quiet_step_in (first|exact cS _ _|exact cR _ _))
    refine wpQuietIn_nil ?_
    rintro w' ⟨⟨dq,osq⟩,rfl⟩
    have aY:=below_regrown w2 dq osq
    clear q0 q1 q2 q3 q4 r0 r1 r2 cS cR
    generalize grow (redrawn w2 dq) osq=w3 at aY⊢
    have H3:=hid (H2.out.below aY H2.out.lt)
    have S3:=hid (S2.out.below aY S2.out.lt)
    have hb:Below W.heap.size W w3:=B2.out.trans (aY.mono B2.out.size)
    have M3:=hid (HM.out.keeps (Keeps.bG hb))
    have J3:=hid (Zt.out _ _ _ ib.out (hb.mono Mc.out.size))
    have K3:=hid (Mc.out.trans (Keeps.bG hb))
    have ft:Hid (Keeps C W w3):=hid (Keeps.bG hb)
    have hs3:=S3.out.lt
    have c3:∀i,w3.cell? ⟨Bb,i,none⟩=(#[int i64 days,int i64 most,.slice gA ng gc,.slice (some ad) nm mc,.slice cA nc cc]:Array Value)[i]?:=M3.out.wb.cell
    obtain⟨r3,r4⟩:=Row.out w3 ft.out
    have tW:Hid (pre ++ (bH lo cnt).flatMap FL<+:xs):=hid (by simpa using iz.out)
    clear aY hb H2 S2 B2 M2 Ei iz
    gi_wp2
    have m9:∀x,W.heap.size≤x→¬ C x:=fun x hx hc=>by have:=So.out x hc;have:=Mc.out.size;omega
    have qq:=hid m9
    obtain⟨w4,hw4⟩:∃w4,w4=w3.alloc (.cells #[int i64 lo,int i64 hi] 38):=⟨_,rfl⟩
    have P4:Hid (Whole w4 w3.heap.size 38 #[int i64 lo,int i64 hi]):=hid (by rw[hw4];exact Whole.new _ _ _)
    have H4:Hid (Whole w4 W.heap.size 88 (⟨hf,hmm,lies⟩:Ht).cells):=hid (by rw[hw4];exact H3.out.alloc _)
    have S4:Hid (Whole w4 (W.heap.size+1) 85 #[int i64 (s 0),int i64 (s 1),int i64 (s 2)]):=hid (by rw[hw4];exact S3.out.alloc _)
    have SD:Hid (Keeps C W w4):=hid (by rw[hw4];exact ft.out.trans (Keeps.bG ((Below.refl _ _).alloc (Nat.le_refl _) _)))
    have J4:Hid (J pre w4):=hid (by rw[hw4];exact Zt.out _ _ _ J3.out ((Below.refl _ _).alloc K3.out.size _))
    have hs4:w3.heap.size<w4.heap.size:=P4.out.lt
    rw[← hw4]
    have hWs:W.heap.size+1<w3.heap.size:=hs3
    clear hw4 H3 S3 ft J3 K3 M3 c3 r3 r4 m9
    gi_loopw [11] (fun n wr=>∃i:Nat,i≤cnt∧n=int i64 (lo+i)∧∃hm:Nat→Int,Hid (Keeps (fun x=>C x∨x=W.heap.size) w4 wr∧Whole wr W.heap.size 88 (⟨hf,hm,lies⟩:Ht).cells∧(∀x,bY ⟨hf,hm,lies⟩ k x=bY ⟨hf,hmm,lies⟩ k x)∧J (pre ++ (bH lo i).flatMap FL) wr)) (fun n _=>(hi+1 - intOf n).toNat)
    case atStart=>exact⟨0,Nat.zero_le _,zs,hmm,hid ⟨Keeps.refl _ _,H4.out,fun _=>rfl,by simpa [bH] using J4.out⟩⟩
    case round=>
     obtain⟨i,hii,rfl,hm,hT⟩:=hrel
     clear J4 H4
     have hKr:Keeps C W wr:=SD.out.then hT.out.1 fun x hx h=>h.elim id fun h=>zo
     have Ft:=hid hKr
     have Mr:=hid (HM.out.keeps hKr)
     have Sr:=hid (S4.out.keeps hT.out.1 (fun h=>h.elim (qq.out _ zo) (fun h=>zo)))
     have Pr:=hid (P4.out.keeps hT.out.1 (fun h=>h.elim (qq.out _ zo) (fun h=>zo)))
     have g1:wr.cell? ⟨w3.heap.size,1,none⟩=some (int i64 hi):=Pr.out.cell 1
     have hst:=hT.out.1.size
     clear hKr
     by_cases hic:i<cnt
     ·have hd:decide (lo+(i:Int)≤hi)=true:=decide_eq_true (by have:=HC.out;omega)
      have hk0:(0:Int)≤(k:Int):=zo
      have Rb:(k:Int)<6:=zo
      have x0:wr.cell? ⟨W.heap.size,3+k,none⟩=some (int i64 (hm k)):=(hT.out.2.1.cell _).trans (QG zo)
      have xf:=hT.out.2.1.thaw
      have hWr:=hT.out.2.1.lt
      have hn0:0≤lo+(i:Int)∧lo+(i:Int)≤99:=by have:=HC.out;have:=HF.out;omega
      have FA:=hid hn0
      have hnw:wrap64 (lo+(i:Int)+1)=lo+(i:Int)+1:=IntWalk.wrap64_in _ zo
      have il:=hid hnw
      clear hn0
      obtain⟨nv,aw⟩:∃nv,nv=lo+(i:Int):=⟨_,rfl⟩
      have Ku:=hid aw
      rw[← aw] at hd FA hnw⊢
      clear aw
      gi_wp2
      obtain⟨hx,hhx⟩:∃hx,hx=bY ⟨hf,hmm,lies⟩ k nv:=⟨_,rfl⟩
      obtain⟨sx,hsx⟩:∃sx,sx=AF nv:=⟨_,rfl⟩
      have hx2:hx=(⟨hf,fun i=>if i=k then nv else hm i,lies⟩:Ht):=by rw[hhx,← hT.out.2.2.1 nv];rfl
      obtain⟨w7,hw7⟩:∃w7,w7=wr.setCell ⟨W.heap.size,3+k,none⟩ (int i64 nv):=⟨_,rfl⟩
      have W7:Hid (Whole w7 W.heap.size 88 #[int i64 (hx.f 0),int i64 (hx.f 1),int i64 (hx.f 2),int i64 (hx.m 0),int i64 (hx.m 1),int i64 (hx.m 2),int i64 (hx.m 3),int i64 (hx.m 4),int i64 (hx.m 5),int i64 hx.lies]):=hid (by
       have:=hT.out.2.1.set (3+k) (int i64 nv)
       rw[ME zo,← hx2,← hw7] at this
       exact this)
      have K7:Hid (Keeps (fun x=>C x∨x=W.heap.size) wr w7):=hid (by rw[hw7];exact(Keeps.refl _ _).set (p:=⟨W.heap.size,3+k,none⟩) (.inr rfl) _)
      have uC:Hid (Keeps C W w7):=hid (Ft.out.then K7.out fun x hx h=>h.elim id fun h=>zo)
      have M7:=hid (HM.out.keeps uC.out)
      have S7:=hid (Sr.out.keeps K7.out (fun h=>h.elim (qq.out _ zo) (fun h=>zo)))
      have J7:Hid (J (pre ++ (bH lo i).flatMap FL) w7):=hid (by rw[hw7];exact Zt.out _ _ _ hT.out.2.2.2 ((Below.refl _ _).setCell (p:=⟨W.heap.size,3+k,none⟩) (by have:=Mc.out.size;exact this) _))
      have RR:=hid hx2
      have Qd:=FA.out
      have ZJ:=fun w=>tj.out nv w Qd.1 Qd.2
      have rj:=fun pre W=>Pu.out nv pre W Qd.1 Qd.2
      rw[← hhx,← hsx] at ZJ rj
      simp only[Bk.val,Bk.cells,Ht.val,Ht.cells,lH] at ZJ rj
      have R':=hid rj
      have IP:∀d os,CallsIn (FW p) 0 prog 79 #[.agg #[int i64 days,int i64 most,.slice gA ng gc,.slice (some ad) nm mc,.slice cA nc cc],.agg #[int i64 (s 0),int i64 (s 1),int i64 (s 2)],.agg #[int i64 (hx.f 0),int i64 (hx.f 1),int i64 (hx.f 2),int i64 (hx.m 0),int i64 (hx.m 1),int i64 (hx.m 2),int i64 (hx.m 3),int i64 (hx.m 4),int i64 (hx.m 5),int i64 hx.lies],int i64 k] (grow (redrawn w7 d) os) fun e w''=>e=.returned (.agg #[int i64 (sx 0),int i64 (sx 1),int i64 (sx 2)])∧∃p:Regrown,w''=grow (redrawn w7 p.d) p.os:=fun d os=>CallsIn.regrown_of (ZJ _ (((M7.out.at_.more M7.out.n0).below (below_regrown w7 d os)).more (below_regrown w7 d os).size))
      have ek:IntKind.i64.wrap ((k:Int)+1)=(k:Int)+1:=IntWalk.i64_in _ zo
      rw[← hw7]
      clear hw7 hx2 Qd ZJ rj hhx hsx x0 xf g1 hnw
      have q0:∀d os,(grow (redrawn w7 d) os).cell? ⟨Bb,0,none⟩=some (int i64 days):=cell_regrown (M7.out.wb.cell 0)
      have q1:∀d os,(grow (redrawn w7 d) os).cell? ⟨Bb,1,none⟩=some (int i64 most):=cell_regrown (M7.out.wb.cell 1)
      have q2:∀d os,(grow (redrawn w7 d) os).cell? ⟨Bb,2,none⟩=some (.slice gA ng gc):=cell_regrown (M7.out.wb.cell 2)
      have q3:∀d os,(grow (redrawn w7 d) os).cell? ⟨Bb,3,none⟩=some (.slice (some ad) nm mc):=cell_regrown (M7.out.wb.cell 3)
      have q4:∀d os,(grow (redrawn w7 d) os).cell? ⟨Bb,4,none⟩=some (.slice cA nc cc):=cell_regrown (M7.out.wb.cell 4)
      have q5:∀d os,(grow (redrawn w7 d) os).cell? ⟨Bf,0,none⟩=some (.func (.func 102) #[] #[.pointer (some ⟨Bb,0,none⟩),.pointer (some ⟨By,0,none⟩),.pointer (some ⟨Bf,0,none⟩)]):=cell_regrown (M7.out.wf.cell 0)
      have r0:=cell_regrown (S7.out.cell 0)
      have r1:=cell_regrown (S7.out.cell 1)
      have r2:=cell_regrown (S7.out.cell 2)
      have y0:=cell_regrown (W7.out.cell 0)
      have y1:=cell_regrown (W7.out.cell 1)
      have y2:=cell_regrown (W7.out.cell 2)
      have y3:=cell_regrown (W7.out.cell 3)
      have y4:=cell_regrown (W7.out.cell 4)
      have y5:=cell_regrown (W7.out.cell 5)
      have y6:=cell_regrown (W7.out.cell 6)
      have y7:=cell_regrown (W7.out.cell 7)
      have y8:=cell_regrown (W7.out.cell 8)
      have y9:=cell_regrown (W7.out.cell 9)
      refine aI 9 rfl zk zk ?_
      simp only[List.take_succ_cons,List.take_zero,List.drop_succ_cons,List.drop_zero]
      repeat (quiet_step_in (exact IP _ _))
      refine wpQuietIn_nil ?_
      rintro w' ⟨⟨dq,osq⟩,rfl⟩
      have aY:=below_regrown w7 dq osq
      clear q0 q1 q2 q3 q4 q5 r0 r1 r2 y0 y1 y2 y3 y4 y5 y6 y7 y8 y9 IP ek
      generalize grow (redrawn w7 dq) osq=w9 at aY⊢
      have K9:Hid (Keeps (fun x=>C x∨x=W.heap.size) wr w9):=hid (K7.out.trans (Keeps.bG aY))
      have vb:Hid (Keeps C W w9):=hid (uC.out.trans (Keeps.bG aY))
      have M9:=hid (HM.out.keeps vb.out)
      have W9:=hid (W7.out.below aY W7.out.lt)
      have J9:=hid (Zt.out _ _ _ J7.out (aY.mono (Nat.le_trans Mc.out.size uC.out.size)))
      obtain⟨rest,hrest⟩:∃rest,rest=((bH lo cnt).drop (i+1)).flatMap FL:=⟨_,rfl⟩
      have e:(bH lo cnt).flatMap FL=(bH lo i).flatMap FL ++ (FL nv ++ rest):=by
       rw[hrest]
       have h1:bH lo cnt=bH lo i ++ nv :: (bH lo cnt).drop (i+1):=by
        have h2:(bH lo cnt).take i=bH lo i:=by
         unfold bH
         rw[← List.map_take,List.take_range,Nat.min_eq_left zo]
        have h3:(bH lo cnt)[i]'(by simp[bH];exact hic)=nv:=by rw[Ku.out];simp[bH]
        have h4:=List.take_append_drop i (bH lo cnt)
        rw[h2,List.drop_eq_getElem_cons (by simp[bH];exact hic),h3] at h4
        exact h4.symm
       rw[h1,List.flatMap_append,List.flatMap_cons]
       congr 2
       rw[← h1]
      have HE:=hid e
      have hpx:(pre ++ (bH lo i).flatMap FL) ++ FL nv<+:xs:=by
       have h:=tW.out
       rw[e] at h
       exact List.IsPrefix.trans ⟨rest,zs⟩ h
      have XT:=hid hpx
      clear aY hpx e hrest
      gi_wp2_with (gi_at_call 102;refine(R'.out (pre ++ (bH lo i).flatMap FL) w9 M9.out (Mc.out.trans vb.out) J9.out XT.out).mono ?_;rintro e W5 ⟨hk5,(⟨rfl,Z6⟩|⟨rfl,q,hq,hx5⟩)⟩)
      ·refine⟨⟨i+1,zo,by rw[Ku.out,il.out];congr 1;push_cast;omega,fun i=>if i=k then nv else hm i,hid ⟨hT.out.1.trans (K9.out.trans (hk5.more fun b _ h=>.inl h)),?_,fun x=>?_,?_⟩⟩,?_⟩
       ·have:=W9.out.keeps hk5 (qq.out _ (Nat.le_refl _))
        rw[← RR.out]
        exact this
       ·rw[← hT.out.2.2.1 x]
        unfold bY
        simp only
        congr 1
        funext y
        split <;> rfl
       ·rw[mD,List.flatMap_append,← List.append_assoc,← Ku.out]
        simpa using Z6
       ·have h1:=il.out
        have h2:=Ku.out
        have h3:=HC.out
        rw[h2,h1]
        simp only[intOf]
        omega
      ·go_ret
       refine⟨vb.out.trans hk5,.inr ⟨rfl,(bH lo i).flatMap FL ++ q,?_,by rw[← List.append_assoc];exact hx5⟩⟩
       rw[HE.out]
       obtain⟨r,hr⟩:=hq
       exact⟨r ++ rest,by rw[← hr];simp⟩
     ·obtain rfl:i=cnt:=zo
      have hd:decide (lo+(i:Int)≤hi)=false:=decide_eq_false (by have:=HC.out;omega)
      gi_wp2
      go_ret
      exact⟨Ft.out,.inl ⟨rfl,hT.out.2.2.2⟩⟩
end
end Go.Proofs.YthaelabgfnnebaaGreat
