/- HR2 HA0 HP HA1 HA2 P14 -/
import Derived.Test.YtmjjocnfidnelaaGreatD3
import Derived.Sort.MapsRangeIn
set_option maxRecDepth 100000
set_option maxHeartbeats 16000000
set_option linter.unusedVariables false
set_option linter.unusedSectionVars false
open Go.IntKind(i64)
open Go.Lib(hid)
open Go.Proofs.Tryz
open Go.Value(int)
namespace Go.Proofs.YtmjjocnfidnelaaGreat
section
open Go.RowKit Go.Maps
open Go.Sort (grow)
attribute [local go_sem] Oper.semAt_some
def nY(kl:Nat→Int→Lit)(v:Ht→Nat→Int)(pre:List Ht):DataW Unit:=pre.foldl (fun D h=>rP (rP (rP D (kl 0 (v h 0))) (kl 1 (v h 1))) (kl 2 (v h 2))) (.map [])
theorem KP(kl:Nat→Int→Lit)(v:Ht→Nat→Int)(pre:List Ht)(h:Ht):nY kl v (pre ++ [h])=rP (rP (rP (nY kl v pre) (kl 0 (v h 0))) (kl 1 (v h 1))) (kl 2 (v h 2)):=by unfold nY;rw[List.foldl_append];rfl
abbrev Az(W:World)(M n:Nat)(D:DataW Unit):Prop:=W.ownsMap prog 133 (plainElem prog 3) M n D
theorem Tz(u v z:Int)(w:World):(Instr.index 75 (.agg #[int i64 u,int i64 v,int i64 z]) (int i64 0)).run prog w=.ok (int i64 u) w∧(Instr.index 75 (.agg #[int i64 u,int i64 v,int i64 z]) (int i64 1)).run prog w=.ok (int i64 v) w∧(Instr.index 75 (.agg #[int i64 u,int i64 v,int i64 z]) (int i64 2)).run prog w=.ok (int i64 z) w:=⟨zk,zk,zk⟩
theorem Yc(b:Bk)(ok:b.Ok)(hl:∀s∈au b,fG s)(hlen:(aH b (au b)).length<2 ^ 40)(v:Ht→Nat→Int)(hv:v=fun h=>stk b h b.days b.nm)(kl:Nat→Int→Lit)(hkey:∀h∈aH b (au b),∀g:Nat,g<3→keyOf prog 133 (.agg #[int i64 g,int i64 (v h g)])=some (kl g (v h g)))(A:Option Addr)(p:Nat)(w:World)(hc:oV b A w):
 CallsIn FF 0 prog 83 #[.agg (ay b A (au b).length p)] w fun e w'=>∃M n,e=.returned (.tuple #[int i64 (aH b (au b)).length,.map (some M)])∧n≤3 * (aH b (au b)).length∧Az w' M n (nY kl v (aH b (au b)))∧w.heap.size≤M∧Below w.heap.size w w':=by
 have hx:=kL b ok (au b) hl
 have HH:=hid fun w=>nQ (p:=FF.fn) b A (au b).length p w
 have HIT:=hid fun(C:Nat→Prop) (Bc:Nat) (W:World) (hW:Below w.heap.size w W) (hC:∀x,C x→w.heap.size≤x∧x<W.heap.size) (hb:Whole W Bc 73 (ay b A (au b).length p)) (cb:¬ C Bc)=>J5 (p:=FF.fn) b ok A p (au b) hl (lT b ok) C w.heap.size Bc W (fun x hx=>(hC x hx).2) hb (hc.row.below hW) (hc.at_.below hW) hW.size cb (fun x hx h=>by have:=(hC _ h).1;omega)
 have HS:=hid fun W (h:Ht) (hh:h∈aH b (au b)) hA=>show CallsIn FF 0 prog 28 #[b.val,h.val,int i64 b.days] W fun e w'=>e=.returned (mE (v h))∧Below W.heap.size W w' from by rw[hv];exact gF b h b.days W hA ok.moves ok.dn.1.2 (hx h hh)
 have HC:=hid hc
 have HA:=hid hc.at_
 have HK:=hid hkey
 obtain⟨n,hn⟩:∃n,n=(au b).length:=⟨_,rfl⟩
 obtain⟨xs,hxs⟩:∃xs,xs=aH b (au b):=⟨_,rfl⟩
 rw[← hn] at HH HIT⊢
 rw[← hxs] at HIT HS HK hlen⊢
 clear hn hxs hc hl ok hx hv hkey
 obtain⟨days,most,gA,ng,gc,g,mA,nm,mc,m,cA,nc,cc,c⟩:=b
 simp only[Bk.val,Bk.cells,ay,mE] at HH HIT HS⊢
 refine callsIn_of_wp_marks func83 rfl zs ?_ rfl
 simp only[ntmps83,List.size_toArray,List.length_cons,List.length_nil,Nat.reduceAdd,Nat.reduceSub,Array.replicate_succ,Array.replicate_zero,List.push_toArray,List.append_toArray,List.nil_append,List.cons_append]
 have hmm:=@run_makeMap prog
 obtain⟨W,hW⟩:∃W,W=(((w.alloc (.cells #[int i64 days,int i64 most,.slice gA ng gc,.slice mA nm mc,.slice cA nc cc,.slice A n p] 73)).alloc (.cells #[int i64 0] 3)).alloc (.cells #[.map (some (w.heap.size+1+1+1))] 129)).alloc (.map #[] 0):=⟨_,rfl⟩
 have B1:Hid (Below w.heap.size w W):=hid (by rw[hW];exact bw)
 have C1:Hid (Whole W w.heap.size 73 #[int i64 days,int i64 most,.slice gA ng gc,.slice mA nm mc,.slice cA nc cc,.slice A n p]):=hid (by rw[hW];exact(((Whole.new w _ _).alloc _).alloc _).alloc _)
 have N1:Hid (Whole W (w.heap.size+1) 3 #[int i64 0]):=hid (by rw[hW];exact((aP zs).alloc _).alloc _)
 have M1:Hid (Whole W (w.heap.size+1+1) 129 #[.map (some (w.heap.size+1+1+1))]):=hid (by rw[hW];exact(aP zs).alloc _)
 have O1:Hid (Az W (w.heap.size+1+1+1) 0 (nY kl v [])):=hid (by
  have:=World.ownsMap_made (H:=Unit) (((w.alloc (.cells #[int i64 days,int i64 most,.slice gA ng gc,.slice mA nm mc,.slice cA nc cc,.slice A n p] 73)).alloc (.cells #[int i64 0] 3)).alloc (.cells #[.map (some (w.heap.size+1+1+1))] 129)) prog 133 (plainElem prog 3)
  simp only[World.size_alloc] at this;rw[hW];exact this)
 have hsW:W.heap.size=w.heap.size+4:=by rw[hW];simp
 have HW:=hid hW
 clear hW
 gi_wp2_with (gi_at_call 38;rw[← HW.out];refine(HH.out W).mono ?_;rintro e w4 ⟨rfl,hw4,hb4,hs4⟩)
 clear hmm HW
 have B4:Hid (Below w.heap.size w w4):=hid (Below.next B1.out hb4)
 have C4:=hid (C1.out.below hb4 C1.out.lt)
 have N4:=hid (N1.out.below hb4 N1.out.lt)
 have M4:=hid (M1.out.below hb4 M1.out.lt)
 have O4:Hid (Az w4 (w.heap.size+1+1+1) 0 (nY kl v [])):=hid (bR O1.out (hb4.block _ zo))
 rw[hsW] at hw4
 have H4:=hid hw4
 clear hw4 hb4 B1 C1 N1 M1 O1
 obtain⟨CC,Sq⟩:∃CC:Nat→Prop,CC=fun x=>x=w.heap.size+1∨x=w.heap.size+1+1+1:=⟨_,rfl⟩
 have nD:∀x,CC x↔x=w.heap.size+1∨x=w.heap.size+1+1+1:=fun x=>by rw[Sq]
 clear Sq
 have eg:=enters_of func71 zk rfl
 have Qw:=hid eg
 clear eg
 refine iK (C:=CC) rfl rfl (gf:=71) (lb:=#[.pointer (some ⟨w.heap.size+4,0,none⟩)]) rfl zs Qw.out (encs:=fun h:Ht=>#[h.val]) (xs:=xs)
  (fun x hx=>by have:=(nD x).1 hx;omega) ?hseq (fun _=>rfl) (fun pre W'=>Hid (Whole W' (w.heap.size+1) 3 #[int i64 pre.length]∧Az W' (w.heap.size+1+1+1) (3 * pre.length) (nY kl v pre))) (fun c pre W'=>False)
  (fun pre A B h hb=>hid ⟨h.out.1.below hb zo,bR h.out.2 (hb.block _ zo)⟩) (fun c pre A B h hb=>h.elim) (hid ⟨N4.out,O4.out⟩) ?gD ?hdone ?hstop
 case hseq=>
  exact fun W2 hb2 hs2=>HIT.out _ _ W2 (Below.next B4.out hb2) (fun x hx=>by rw[nD] at hx;omega) (H4.out.below hb2 H4.out.lt) (fun hx=>by rw[nD] at hx;omega)
 case gD=>
  intro l' pre h A0 hl' hpre hj hk hsz hrec
  have hsn:=KP kl v pre h
  have hpl:(pre ++ [h]).length=pre.length+1:=zs
  have LI:=iE hpre
  rw[hpl,hsn]
  have K0:keyOf prog 133 (.agg #[int i64 0,int i64 (v h 0)])=some (kl 0 (v h 0)):=HK.out h (fK hpre) 0 zD
  have K1:keyOf prog 133 (.agg #[int i64 1,int i64 (v h 1)])=some (kl 1 (v h 1)):=HK.out h (fK hpre) 1 zD
  have K2:keyOf prog 133 (.agg #[int i64 2,int i64 (v h 2)])=some (kl 2 (v h 2)):=HK.out h (fK hpre) 2 zD
  have IW:=hid fun W=>HS.out W h (fK hpre)
  obtain⟨v0,hv0⟩:∃x,x=v h 0:=⟨_,rfl⟩
  obtain⟨v1,hv1⟩:∃x,x=v h 1:=⟨_,rfl⟩
  obtain⟨v2,hv2⟩:∃x,x=v h 2:=⟨_,rfl⟩
  rw[← hv0] at K0 IW⊢
  rw[← hv1] at K1 IW⊢
  rw[← hv2] at K2 IW⊢
  obtain⟨k0,hk0⟩:∃x,x=kl 0 v0:=⟨_,rfl⟩
  obtain⟨k1,hk1⟩:∃x,x=kl 1 v1:=⟨_,rfl⟩
  obtain⟨k2,hk2⟩:∃x,x=kl 2 v2:=⟨_,rfl⟩
  rw[← hk0] at K0⊢
  rw[← hk1] at K1⊢
  rw[← hk2] at K2⊢
  have Nv:=hid K0
  have HK1:=hid K1
  have HK2:=hid K2
  obtain⟨D,hD⟩:∃D,D=nY kl v pre:=⟨_,rfl⟩
  rw[← hD] at hj⊢
  clear hsn hpl hv0 hv1 hv2 hk0 hk1 hk2 hD K0 K1 K2
  obtain⟨hf,hmm,uT⟩:=h
  simp only[Ht.val,Ht.cells] at IW⊢
  gi_wp2
  refine⟨bw,fun W2 hS=>?_⟩
  have oI:Below (w.heap.size+5) A0 W2:=((Below.refl _ A0).alloc zo _).trans (hS.below zo)
  have hA2:A0.heap.size+1≤W2.heap.size:=by have:=hS.size;simp at this;exact Nat.le_of_eq this.symm
  have N2:=hid (hj.out.1.below oI zo)
  have O2:Hid (Az W2 (w.heap.size+1+1+1) (3 * pre.length) D):=hid (bR hj.out.2 (oI.block _ zo))
  have C2:Hid (Whole W2 w.heap.size 73 #[int i64 days,int i64 most,.slice gA ng gc,.slice mA nm mc,.slice cA nc cc,.slice A n p]):=hid ((C4.out.of (hk.block _ zo (fun hx=>by rw[nD] at hx;omega))).below oI zo)
  have M2:Hid (Whole W2 (w.heap.size+1+1) 129 #[.map (some (w.heap.size+1+1+1))]):=hid ((M4.out.of (hk.block _ zo (fun hx=>by rw[nD] at hx;omega))).below oI zo)
  have X2:Hid (Whole W2 A0.heap.size 78 (⟨hf,hmm,uT⟩:Ht).cells):=hid ((Whole.new A0 _ _).of (hS.block _ zo))
  have HB2:Hid (Below w.heap.size w W2):=hid ((B4.out.trans (hk.below (n:=w.heap.size) (fun b hb hc=>by have:=(nD b).1 hc;omega) zo)).trans (oI.mono zo))
  have e1:wrap64 ((pre.length:Int)+1)=(pre.length:Int)+1:=IntWalk.wrap64_in _ (by have:=iE hpre;omega)
  have c6:W2.cell? ⟨w.heap.size+1,0,none⟩=some (int i64 pre.length):=N2.out.cell 0
  have f6:=N2.out.thaw
  obtain⟨W3,hW3⟩:∃W3,W3=W2.setCell ⟨w.heap.size+1,0,none⟩ (int i64 (pre.length+1)):=⟨_,rfl⟩
  have N3:Hid (Whole W3 (w.heap.size+1) 3 #[int i64 (pre.length+1)]):=hid (by rw[hW3];exact N2.out.set 0 (int i64 (pre.length+1)))
  have C3:Hid (Whole W3 w.heap.size 73 #[int i64 days,int i64 most,.slice gA ng gc,.slice mA nm mc,.slice cA nc cc,.slice A n p]):=hid (by rw[hW3];exact C2.out.other zF _)
  have M3:Hid (Whole W3 (w.heap.size+1+1) 129 #[.map (some (w.heap.size+1+1+1))]):=hid (by rw[hW3];exact M2.out.other zF _)
  have X3:Hid (Whole W3 A0.heap.size 78 (⟨hf,hmm,uT⟩:Ht).cells):=hid (by rw[hW3];exact X2.out.other zF _)
  have O3:Hid (Az W3 (w.heap.size+1+1+1) (3 * pre.length) D):=hid (by rw[hW3];exact bR O2.out (Below.heap_setCell _ _ _ _ zF))
  have K3:Hid (Keeps CC W2 W3):=hid (by rw[hW3];exact Keeps.set (p:=⟨w.heap.size+1,0,none⟩) (Keeps.refl _ _) ((nD _).2 (.inl rfl)) _)
  have HB3:Hid (Below w.heap.size w W3):=hid (by rw[hW3];exact HB2.out.setCell zs _)
  have hs3:W3.heap.size=W2.heap.size:=by rw[hW3];simp[World.setCell]
  have x0:W3.cell? ⟨A0.heap.size,0,none⟩=some (int i64 (hf 0)):=X3.out.cell 0
  have x1:W3.cell? ⟨A0.heap.size,1,none⟩=some (int i64 (hf 1)):=X3.out.cell 1
  have x2:W3.cell? ⟨A0.heap.size,2,none⟩=some (int i64 (hf 2)):=X3.out.cell 2
  have x3:W3.cell? ⟨A0.heap.size,3,none⟩=some (int i64 (hmm 0)):=X3.out.cell 3
  have x4:W3.cell? ⟨A0.heap.size,4,none⟩=some (int i64 (hmm 1)):=X3.out.cell 4
  have x5:W3.cell? ⟨A0.heap.size,5,none⟩=some (int i64 (hmm 2)):=X3.out.cell 5
  have x6:W3.cell? ⟨A0.heap.size,6,none⟩=some (int i64 (hmm 3)):=X3.out.cell 6
  have x7:W3.cell? ⟨A0.heap.size,7,none⟩=some (int i64 (hmm 4)):=X3.out.cell 7
  have x8:W3.cell? ⟨A0.heap.size,8,none⟩=some (int i64 (hmm 5)):=X3.out.cell 8
  have x9:W3.cell? ⟨A0.heap.size,9,none⟩=some (int i64 (uT)):=X3.out.cell 9
  have q0:W3.cell? ⟨w.heap.size,0,none⟩=some (int i64 days):=C3.out.cell 0
  have q1:W3.cell? ⟨w.heap.size,1,none⟩=some (int i64 most):=C3.out.cell 1
  have q2:W3.cell? ⟨w.heap.size,2,none⟩=some (.slice gA ng gc):=C3.out.cell 2
  have q3:W3.cell? ⟨w.heap.size,3,none⟩=some (.slice mA nm mc):=C3.out.cell 3
  have q4:W3.cell? ⟨w.heap.size,4,none⟩=some (.slice cA nc cc):=C3.out.cell 4
  rw[hW3] at q0 q1 q2 q3 q4 x0 x1 x2 x3 x4 x5 x6 x7 x8 x9
  have HW3:=hid hW3
  clear hW3 X2 O2 C2 M2 N2 oI
  have Mn:=fun u v z w=>(Tz u v z w).1
  have Mo:=fun u v z w=>(Tz u v z w).2.1
  have Mu:=fun u v z w=>(Tz u v z w).2.2
  gi_wp2_with (gi_at_call 28;rw[← HW3.out];refine(IW.out W3 (HA.out.up HB3.out)).mono ?_;rintro e W5 ⟨rfl,hb5⟩)
  have hlt3:=N3.out.lt
  have N5:=hid (N3.out.below hb5 N3.out.lt)
  have M5:=hid (M3.out.below hb5 M3.out.lt)
  have O5:Hid (Az W5 (w.heap.size+1+1+1) (3 * pre.length) D):=hid (bR O3.out (hb5.block _ zo))
  have K5:=hid (K3.out.trans (Keeps.bL hb5))
  have hs5:W2.heap.size≤W5.heap.size:=by have:=hb5.size;omega
  clear N3 M3 O3 K3 C3 X3 hb5 q0 q1 q2 q3 q4 x0 x1 x2 x3 x4 x5 x6 x7 x8 x9
  refine wpIn_loop_rounds 4 ?_
  rw[roundsIn_succ]
  gi_wp2
  refine Jy _ _ _ _ _ _ _ _ Nv.out _ (M5.out.cell 0) M5.out.lt zo O5.out zu _ _ _ _ _ _ _ _ _ _ _ _ _ _ _ _ _ _ _ _ _ _ _ _ _ _ _ _ _ _ _ _ _ _ _ ?hQ ?_
  case hQ=>exact fun _ _ _ _ h=>h
  intro y25 y26 y27 y28 y29 y30 y31 y32 W6 o6 AD
  have O6:=hid o6
  have N6:Hid (Whole W6 (w.heap.size+1) 3 #[int i64 (pre.length+1)]):=hid (N5.out.of (AD.block _ (by have:=N5.out.lt;omega) (by show ¬ (w.heap.size+1=w.heap.size+1+1+1);omega)))
  have M6:Hid (Whole W6 (w.heap.size+1+1) 129 #[.map (some (w.heap.size+1+1+1))]):=hid (M5.out.of (AD.block _ M5.out.lt (by show ¬ (w.heap.size+1+1=w.heap.size+1+1+1);omega)))
  have K6:Hid (Keeps CC W2 W6):=hid (K5.out.trans (AD.more (fun x _ hx=>(nD x).2 (.inr hx))))
  clear o6 AD
  simp only[Exit.inBlock,Exit.then]
  go_at_K
  gi_wp2
  rw[roundsIn_succ]
  gi_wp2
  refine Jy _ _ _ _ _ _ _ _ HK1.out _ (M6.out.cell 0) M6.out.lt zo O6.out zu _ _ _ _ _ _ _ _ _ _ _ _ _ _ _ _ _ _ _ _ _ _ _ _ _ _ _ _ _ _ _ _ _ _ _ ?hQ ?_
  case hQ=>exact fun _ _ _ _ h=>h
  intro y25 y26 y27 y28 y29 y30 y31 y32 W7 o7 AG
  have O7:=hid o7
  have N7:Hid (Whole W7 (w.heap.size+1) 3 #[int i64 (pre.length+1)]):=hid (N6.out.of (AG.block _ (by have:=N6.out.lt;omega) (by show ¬ (w.heap.size+1=w.heap.size+1+1+1);omega)))
  have M7:Hid (Whole W7 (w.heap.size+1+1) 129 #[.map (some (w.heap.size+1+1+1))]):=hid (M6.out.of (AG.block _ M6.out.lt (by show ¬ (w.heap.size+1+1=w.heap.size+1+1+1);omega)))
  have K7:Hid (Keeps CC W2 W7):=hid (K6.out.trans (AG.more (fun x _ hx=>(nD x).2 (.inr hx))))
  clear o7 AG
  simp only[Exit.inBlock,Exit.then]
  go_at_K
  gi_wp2
  rw[roundsIn_succ]
  gi_wp2
  refine Jy _ _ _ _ _ _ _ _ HK2.out _ (M7.out.cell 0) M7.out.lt zo O7.out zu _ _ _ _ _ _ _ _ _ _ _ _ _ _ _ _ _ _ _ _ _ _ _ _ _ _ _ _ _ _ _ _ _ _ _ ?hQ ?_
  case hQ=>exact fun _ _ _ _ h=>h
  intro y25 y26 y27 y28 y29 y30 y31 y32 W8 o8 AH
  have O8:=hid o8
  have N8:Hid (Whole W8 (w.heap.size+1) 3 #[int i64 (pre.length+1)]):=hid (N7.out.of (AH.block _ (by have:=N7.out.lt;omega) (by show ¬ (w.heap.size+1=w.heap.size+1+1+1);omega)))
  have M8:Hid (Whole W8 (w.heap.size+1+1) 129 #[.map (some (w.heap.size+1+1+1))]):=hid (M7.out.of (AH.block _ M7.out.lt (by show ¬ (w.heap.size+1+1=w.heap.size+1+1+1);omega)))
  have K8:Hid (Keeps CC W2 W8):=hid (K7.out.trans (AH.more (fun x _ hx=>(nD x).2 (.inr hx))))
  clear o8 AH
  simp only[Exit.inBlock,Exit.then]
  go_at_K
  gi_wp2
  rw[roundsIn_succ]
  gi_wp2
  exact⟨K8.out,hid ⟨by simpa using N8.out,by have:=O8.out;rwa[show 3 * pre.length+1+1+1=3 * (pre.length+1) by omega] at this⟩⟩
 case hdone=>
  intro W' hj hk hm
  have hlt1:=hj.out.1.lt
  have N5:=hid hj.out.1
  have M5:Hid (Whole W' (w.heap.size+1+1) 129 #[.map (some (w.heap.size+1+1+1))]):=hid (M4.out.of (hk.block _ zo (fun hx=>by rw[nD] at hx;omega)))
  have O5:=hid hj.out.2
  have Dw:Hid (Below w.heap.size w W'):=hid (B4.out.trans (hk.below (n:=w.heap.size) (fun b hb hc=>by have:=(nD b).1 hc;omega) zo))
  have hms:Marks w4.heap.size (w4.heap.size+1) [{target:=.collected w4.heap.size,args:=#[] }] W':=⟨_,rfl,Nat.le_refl _,Nat.lt_succ_self _,hm,trivial⟩
  have VW:=hid hms
  have hm1:w4.heap.size<W'.heap.size:=(Array.getElem?_eq_some_iff.1 hm).1
  clear hj hms hk hm hlen
  simp only[Exit.inBlock,Exit.then]
  go_at_K
  gi_wp2
  refine fD 3 (fun w'=>w'.cell? ⟨w.heap.size+1,0,none⟩=some (int i64 xs.length)∧w'.cell? ⟨w.heap.size+1+1,0,none⟩=some (.map (some (w.heap.size+1+1+1)))) zk ?_
  have N6:Hid (Whole W'.drew (w.heap.size+1) 3 #[int i64 xs.length]):=hid N5.out
  have M6:Hid (Whole W'.drew (w.heap.size+1+1) 129 #[.map (some (w.heap.size+1+1+1))]):=hid M5.out
  have O6:Hid (Az W'.drew (w.heap.size+1+1+1) (3 * xs.length) (nY kl v xs)):=hid O5.out.drew
  have mG:=hid (dH Dw.out)
  have oe:Hid (Marks w4.heap.size (w4.heap.size+1) [{target:=.collected w4.heap.size,args:=#[] }] W'.drew):=hid VW.out
  have Lw:w4.heap.size<W'.drew.heap.size:=hm1
  generalize W'.drew=W9 at N6 M6 O6 mG oe Lw⊢
  have hS:W9.cell? ⟨w.heap.size+1,0,none⟩=some (int i64 xs.length)∧W9.cell? ⟨w.heap.size+1+1,0,none⟩=some (.map (some (w.heap.size+1+1+1))):=⟨N6.out.cell 0,M6.out.cell 0⟩
  have cr:Hid (Marks (w.heap.size+4+1) (w.heap.size+4+1+1) [{target:=.collected (w.heap.size+4+1),args:=#[] }] W9):=hid (by have:=oe.out;rwa[show w4.heap.size=w.heap.size+4+1 by omega] at this)
  have c1:=hS.1
  have c2:=hS.2
  have f1:=N6.out.thaw
  have N7:=hid (N6.out.set 0 (int i64 xs.length))
  have M7:=hid (M6.out.other (p:=⟨w.heap.size+1,0,none⟩) zs (int i64 xs.length))
  have N8:=hid (N7.out.other (p:=⟨w.heap.size+1+1,0,none⟩) zs (.map (some (w.heap.size+1+1+1))))
  have M8:=hid (M7.out.set 0 (.map (some (w.heap.size+1+1+1))))
  have lO:=hid ((mG.out.setCell (p:=⟨w.heap.size+1,0,none⟩) (by show w.heap.size≤w.heap.size+1;omega) (int i64 xs.length)).setCell (p:=⟨w.heap.size+1+1,0,none⟩) (by show w.heap.size≤w.heap.size+1+1;omega) (.map (some (w.heap.size+1+1+1))))
  have O8:Hid (Az ((W9.setCell ⟨w.heap.size+1,0,none⟩ (int i64 xs.length)).setCell ⟨w.heap.size+1+1,0,none⟩ (.map (some (w.heap.size+1+1+1)))) (w.heap.size+1+1+1) (3 * xs.length) (nY kl v xs)):=hid (bR (bR O6.out (Below.heap_setCell _ _ _ _ zF)) (Below.heap_setCell _ _ _ _ zF))
  have qT:(W9.setCell ⟨w.heap.size+1,0,none⟩ (int i64 xs.length)).cell? ⟨w.heap.size+1,0,none⟩=some (int i64 xs.length)∧(W9.setCell ⟨w.heap.size+1,0,none⟩ (int i64 xs.length)).cell? ⟨w.heap.size+1+1,0,none⟩=some (.map (some (w.heap.size+1+1+1))):=⟨N7.out.cell 0,M7.out.cell 0⟩
  have d2:=qT.2
  have f2:=M7.out.thaw
  refine aV (i:=0) (i':=1) zk rfl rfl (fun K hK=>?_) (fun K hK=>?_)
  ·skip
   go_simp
   refine hK.out _ _ (fun _=>hS) ?_
   clear hK K
   refine aV (i:=1) (i':=2) zk rfl rfl (fun K hK=>?_) (fun K hK=>?_)
   ·skip
    go_simp
    refine hK.out _ _ (fun _=>hS) ?_
    clear hK K
    refine aN 2 fun K hK=>?_
    go_simp
    refine hK.out _ _ (fun _=>qT) ?_
    clear hK K
    refine aN 3 fun K hK=>?_
    go_simp
    refine hK.out _ _ (fun h=>absurd rfl h) ?_
    clear hK K
    refine aC zk ?_ _
    clear c1 c2 d2 f1 f2
    gi_wp2
    refine dJ (lo:=w.heap.size+4+1) (hi:=w.heap.size+4+1+1) (cr.out.of fun r h1 h2=>((Below.heap_setCell _ ⟨w.heap.size+1+1,0,none⟩ _ _ (by show r≠w.heap.size+1+1;omega)).trans (Below.heap_setCell _ ⟨w.heap.size+1,0,none⟩ _ _ (by show r≠w.heap.size+1;omega)))) (fun B hB=>⟨.tuple #[int i64 xs.length,.map (some (w.heap.size+1+1+1))],?_,w.heap.size+1+1+1,3 * xs.length,rfl,Nat.le_refl _,?_,zo,lO.out.trans (hB.below (n:=w.heap.size) (fun b hb hc=>zo) lO.out.size)⟩)
    ·have u1:=(hB.cell (p:=⟨w.heap.size+1,0,none⟩) N8.out.lt (fun hx=>by have h0:w.heap.size+4+1≤w.heap.size+1:=hx.1;omega)).trans (N8.out.cell 0)
     have u2:=(hB.cell (p:=⟨w.heap.size+1+1,0,none⟩) M8.out.lt (fun hx=>by have h0:w.heap.size+4+1≤w.heap.size+1+1:=hx.1;omega)).trans (M8.out.cell 0)
     simp[results,results83,go_sem,u1,u2]
    ·exact bR O8.out (hB.block _ O8.out.lt (fun hx=>by have h0:w.heap.size+4+1≤w.heap.size+1+1+1:=hx.1;omega))
   ·skip
    go_simp
    refine hK.out _ _ (fun _=>qT) ?_
    clear hK K
    refine aN 1 fun K hK=>?_
    go_simp
    refine hK.out _ _ (fun _=>qT) ?_
    clear hK K
    refine aN 3 fun K hK=>?_
    go_simp
    refine hK.out _ _ (fun h=>absurd rfl h) ?_
    clear hK K
    refine aC zk ?_ _
    clear c1 c2 d2 f1 f2
    gi_wp2
    refine dJ (lo:=w.heap.size+4+1) (hi:=w.heap.size+4+1+1) (cr.out.of fun r h1 h2=>((Below.heap_setCell _ ⟨w.heap.size+1+1,0,none⟩ _ _ (by show r≠w.heap.size+1+1;omega)).trans (Below.heap_setCell _ ⟨w.heap.size+1,0,none⟩ _ _ (by show r≠w.heap.size+1;omega)))) (fun B hB=>⟨.tuple #[int i64 xs.length,.map (some (w.heap.size+1+1+1))],?_,w.heap.size+1+1+1,3 * xs.length,rfl,Nat.le_refl _,?_,zo,lO.out.trans (hB.below (n:=w.heap.size) (fun b hb hc=>zo) lO.out.size)⟩)
    ·have u1:=(hB.cell (p:=⟨w.heap.size+1,0,none⟩) N8.out.lt (fun hx=>by have h0:w.heap.size+4+1≤w.heap.size+1:=hx.1;omega)).trans (N8.out.cell 0)
     have u2:=(hB.cell (p:=⟨w.heap.size+1+1,0,none⟩) M8.out.lt (fun hx=>by have h0:w.heap.size+4+1≤w.heap.size+1+1:=hx.1;omega)).trans (M8.out.cell 0)
     simp[results,results83,go_sem,u1,u2]
    ·exact bR O8.out (hB.block _ O8.out.lt (fun hx=>by have h0:w.heap.size+4+1≤w.heap.size+1+1+1:=hx.1;omega))
  ·skip
   go_simp
   refine hK.out _ _ (fun _=>hS) ?_
   clear hK K
   refine aN 0 fun K hK=>?_
   go_simp
   refine hK.out _ _ (fun _=>hS) ?_
   clear hK K
   refine aN 2 fun K hK=>?_
   go_simp
   refine hK.out _ _ (fun _=>qT) ?_
   clear hK K
   refine aN 3 fun K hK=>?_
   go_simp
   refine hK.out _ _ (fun h=>absurd rfl h) ?_
   clear hK K
   refine aC zk ?_ _
   clear c1 c2 d2 f1 f2
   gi_wp2
   refine dJ (lo:=w.heap.size+4+1) (hi:=w.heap.size+4+1+1) (cr.out.of fun r h1 h2=>((Below.heap_setCell _ ⟨w.heap.size+1+1,0,none⟩ _ _ (by show r≠w.heap.size+1+1;omega)).trans (Below.heap_setCell _ ⟨w.heap.size+1,0,none⟩ _ _ (by show r≠w.heap.size+1;omega)))) (fun B hB=>⟨.tuple #[int i64 xs.length,.map (some (w.heap.size+1+1+1))],?_,w.heap.size+1+1+1,3 * xs.length,rfl,Nat.le_refl _,?_,zo,lO.out.trans (hB.below (n:=w.heap.size) (fun b hb hc=>zo) lO.out.size)⟩)
   ·have u1:=(hB.cell (p:=⟨w.heap.size+1,0,none⟩) N8.out.lt (fun hx=>by have h0:w.heap.size+4+1≤w.heap.size+1:=hx.1;omega)).trans (N8.out.cell 0)
    have u2:=(hB.cell (p:=⟨w.heap.size+1+1,0,none⟩) M8.out.lt (fun hx=>by have h0:w.heap.size+4+1≤w.heap.size+1+1:=hx.1;omega)).trans (M8.out.cell 0)
    simp[results,results83,go_sem,u1,u2]
   ·exact bR O8.out (hB.block _ O8.out.lt (fun hx=>by have h0:w.heap.size+4+1≤w.heap.size+1+1+1:=hx.1;omega))
 case hstop=>
  rintro c pre W' hpre hx hk hm
  exact hx.elim
end
section
open Go.RowKit Go.Maps
noncomputable def eH(g:Nat)(m:Int):Lit:=(keyOf prog 133 (.agg #[int i64 g,int i64 m])).getD (.bool false)
abbrev P1(G M C:Nat):List Ht:=aH (Tb 1 G M C) (au (Tb 1 G M C))
abbrev vT(G M C:Nat):Ht→Nat→Int:=fun h=>stk (Tb 1 G M C) h (Tb 1 G M C).days (Tb 1 G M C).nm
theorem Ze(G M C:Nat):((P1 G M C).all fun h=>(List.range 3).all fun g=>(keyOf prog 133 (.agg #[int i64 g,int i64 (vT G M C h g)])).isSome)=true:=zk
theorem kn(G M C:Nat):∀h∈P1 G M C,∀g:Nat,g<3→keyOf prog 133 (.agg #[int i64 g,int i64 (vT G M C h g)])=some (eH g (vT G M C h g)):=fun h hh g hg=>by
 have h1:=List.all_eq_true.1 (Ze G M C) h hh
 have h2:=List.all_eq_true.1 h1 g (List.mem_range.2 hg)
 unfold eH
 cases hk:keyOf prog 133 (.agg #[int i64 g,int i64 (vT G M C h g)]) with
 | none=>rw[hk] at h2;cases h2
 | some l=>rfl
theorem Zk(G M C:Nat):nY eH (vT G M C) (P1 G M C)=.map [(eH 0 4,.lit (.int .i64 2)),(eH 0 5,.lit (.int .i64 2)),(eH 1 5,.lit (.int .i64 4)),(eH 2 0,.lit (.int .i64 4))]:=zk
theorem tA:keyOf prog 133 (.agg #[int i64 0,int i64 4])=some (eH 0 4):=zk
theorem tB:keyOf prog 133 (.agg #[int i64 0,int i64 5])=some (eH 0 5):=zk
theorem tD:keyOf prog 133 (.agg #[int i64 1,int i64 5])=some (eH 1 5):=zk
theorem tE:keyOf prog 133 (.agg #[int i64 2,int i64 0])=some (eH 2 0):=zk
end
section
open Go.RowKit
attribute [local go_sem] Oper.semAt_some
theorem RD(i B:Nat)(hi:i<3)(n:Int)(w:World)(hc:w.cell? ⟨B,i,none⟩=some (int i64 n)):CallsIn FF 0 prog 85 #[int i64 i,.pointer (some ⟨B,0,none⟩)] w fun e w'=>e=.returned (int i64 n)∧w=w':=by
 gi_enter func85,ntmps85
 rcases(show i=0∨i=1∨i=2 by omega) with rfl|rfl|rfl
 all_goals
  gi_wp2
  go_ret
  exact⟨rfl,rfl⟩
theorem Wx(B:Nat)(w:World)(h0:w.cell? ⟨B,0,none⟩=some (int i64 2))(h1:w.cell? ⟨B,1,none⟩=some (int i64 4)):CallsIn FF 0 prog 84 #[int i64 4,int i64 2,.func (.func 85) #[] #[.pointer (some ⟨B,0,none⟩)]] w fun e w'=>e=.returned (.tuple #[int i64 0,int i64 2])∧w=w':=by
 have HA:=hid (RD 0 B zD 2 w h0)
 have HB:=hid (RD 1 B zD 4 w h1)
 gi_enter func84,ntmps84
 gi_wp2
 refine wpIn_loop_rounds 3 ?_
 rw[roundsIn_succ]
 gi_wp2_with (gi_at_call 85;refine HA.out.mono ?_;rintro e w3 ⟨rfl,rfl⟩)
 rw[roundsIn_succ]
 gi_wp2_with (gi_at_call 85;refine HB.out.mono ?_;rintro e w3 ⟨rfl,rfl⟩)
 rw[roundsIn_succ]
 gi_wp2
 go_ret2
 exact⟨rfl,rfl⟩
end
section
open Go.RowKit Go.Maps
open Go.Sort (grow)
attribute [local go_sem] Oper.semAt_some
noncomputable def tG:List Lit:=[eH 0 4,eH 0 5,eH 1 5,eH 2 0]
noncomputable def DT:DataW Unit:=.map [(eH 0 4,.lit (.int .i64 2)),(eH 0 5,.lit (.int .i64 2)),(eH 1 5,.lit (.int .i64 4)),(eH 2 0,.lit (.int .i64 4))]
theorem Yh:(eH 0 4).sameKey (eH 0 4)=true:=zk
theorem Yi:(eH 0 4).sameKey (eH 0 5)=false:=zk
theorem Yj:(eH 0 4).sameKey (eH 1 5)=false:=zk
theorem Yk:(eH 0 4).sameKey (eH 2 0)=false:=zk
theorem Yl:(eH 0 5).sameKey (eH 0 4)=false:=zk
theorem Ym:(eH 0 5).sameKey (eH 0 5)=true:=zk
theorem Yn:(eH 0 5).sameKey (eH 1 5)=false:=zk
theorem Yo:(eH 0 5).sameKey (eH 2 0)=false:=zk
theorem Yp:(eH 1 5).sameKey (eH 0 4)=false:=zk
theorem Yq:(eH 1 5).sameKey (eH 0 5)=false:=zk
theorem Yr:(eH 1 5).sameKey (eH 1 5)=true:=zk
theorem Yt:(eH 1 5).sameKey (eH 2 0)=false:=zk
theorem Yu:(eH 2 0).sameKey (eH 0 4)=false:=zk
theorem Yv:(eH 2 0).sameKey (eH 0 5)=false:=zk
theorem Yw:(eH 2 0).sameKey (eH 1 5)=false:=zk
theorem Yx:(eH 2 0).sameKey (eH 2 0)=true:=zk
theorem Gr:DT.atKey (eH 0 4) (.map [])=.lit (.int .i64 2):=zk
theorem GC:DT.atKey (eH 0 5) (.map [])=.lit (.int .i64 2):=zk
theorem GM:DT.atKey (eH 1 5) (.map [])=.lit (.int .i64 4):=zk
theorem GO:DT.atKey (eH 2 0) (.map [])=.lit (.int .i64 4):=zk
theorem IM(kl:Lit)(h:Maps.has DT kl=true):kl∈tG:=by
 unfold DT Maps.has at h
 simp only[List.any_cons,List.any_nil,Bool.or_eq_true,Bool.or_false] at h
 unfold tG
 rcases h with h|h|h|h <;> (have:=WideAt.sameKey_eq h;subst this;simp)
theorem rf:Maps.has DT (eH 0 4)=true:=zk
theorem rh:Maps.has DT (eH 0 5)=true:=zk
theorem ri:Maps.has DT (eH 1 5)=true:=zk
theorem rj:Maps.has DT (eH 2 0)=true:=zk
theorem Zv(x c:Value)(kl:Lit)(y:DataW Unit × List MemPlace)(hkey:keyOf prog 133 x=some kl)(hl:kl∈tG)(hR:plainElem prog 3 c=some y)(hat:∀zd,DT.atKey kl zd=y.1):
 (kl=eH 0 4∧x=.agg #[int i64 0,int i64 4]∧c=int i64 2)∨(kl=eH 0 5∧x=.agg #[int i64 0,int i64 5]∧c=int i64 2)∨(kl=eH 1 5∧x=.agg #[int i64 1,int i64 5]∧c=int i64 4)∨(kl=eH 2 0∧x=.agg #[int i64 2,int i64 0]∧c=int i64 4):=by
 obtain⟨a,rfl,rfl,-⟩:=plainElem_int_inv underlying3 hR
 have h0:=hat (.map [])
 unfold tG at hl
 simp only[List.mem_cons,List.not_mem_nil,or_false] at hl
 rcases hl with hl|hl|hl|hl
 ·refine .inl ?_
  rw[hl] at h0 hkey
  rw[Gr] at h0
  injection h0 with h0
  injection h0 with _ h0
  exact⟨hl,dW.inj hkey tA,by rw[h0]⟩
 ·refine .inr (.inl ?_)
  rw[hl] at h0 hkey
  rw[GC] at h0
  injection h0 with h0
  injection h0 with _ h0
  exact⟨hl,dW.inj hkey tB,by rw[h0]⟩
 ·refine .inr (.inr (.inl ?_))
  rw[hl] at h0 hkey
  rw[GM] at h0
  injection h0 with h0
  injection h0 with _ h0
  exact⟨hl,dW.inj hkey tD,by rw[h0]⟩
 ·refine .inr (.inr (.inr ?_))
  rw[hl] at h0 hkey
  rw[GO] at h0
  injection h0 with h0
  injection h0 with _ h0
  exact⟨hl,dW.inj hkey tE,by rw[h0]⟩
def Ph(a b:Bool):Int:=max (if a then 0 else 2) (if b then 0 else 2)
def QD(a:Bool):Int:=if a then 0 else 4
theorem pw(G M C:Nat)(A:Option Addr)(p:Nat)(w:World)(hc:oV (Tb 1 G M C) A w):CallsIn FF 0 prog 61 #[.agg (ay (Tb 1 G M C) A (au (Tb 1 G M C)).length p)] w fun e w'=>e=.returned (.tuple #[int i64 0,int i64 2])∧Below w.heap.size w w':=by
 have HR:Hid (∀W,Below w.heap.size w W→CallsIn FF 0 prog 83 #[.agg (ay (Tb 1 G M C) A (au (Tb 1 G M C)).length p)] W fun e w'=>∃M n,e=.returned (.tuple #[int i64 4,.map (some M)])∧n≤12∧Az w' M n DT∧W.heap.size≤M∧Below W.heap.size W w'):=hid fun W hW=>by
  have:=Yc (Tb 1 G M C) (jY 1 zD G M C) (fB 1 G M C) (by rw[lH];decide) (vT G M C) rfl eH (kn G M C) A p W (hc.below hW)
  rw[lH,Zk] at this
  exact this
 obtain⟨n,hn⟩:∃n,n=(au (Tb 1 G M C)).length:=⟨_,rfl⟩
 rw[← hn] at HR⊢
 clear hn hc
 simp only[Tb,ay] at HR⊢
 obtain⟨w1,hw1⟩:∃w1,w1=w.alloc (.cells #[int i64 10,int i64 1,.slice (some ⟨G,0,none⟩) 2 2,.slice (some ⟨M,0,none⟩) 4 4,.slice (some ⟨C,0,none⟩) 2 2,.slice A n p] 73):=⟨_,rfl⟩
 have B1:Hid (Below w.heap.size w w1):=hid (by rw[hw1];exact bw)
 have C1:Hid (Whole w1 w.heap.size 73 #[int i64 10,int i64 1,.slice (some ⟨G,0,none⟩) 2 2,.slice (some ⟨M,0,none⟩) 4 4,.slice (some ⟨C,0,none⟩) 2 2,.slice A n p]):=hid (by rw[hw1];exact Whole.new _ _ _)
 have nK:=hid hw1
 clear hw1
 gi_enter func61,ntmps61
 gi_wp2_with (first
  | (gi_at_call 83;rw[← nK.out];refine(HR.out w1 B1.out).mono ?_;rintro e w2 ⟨Mp,nn,rfl,hn2,hO2,hM2,hb2⟩;have aar:=hO2.lt;have O2:=hid (hO2.alloc (.cells #[int i64 0,int i64 0,int i64 0] 75));clear hO2)
  | (gi_at_range;refine wpListIn_range_own _ rfl _ 129 rfl 133 3 dW underlying129 _ Mp nn _ rfl O2.out ?_;intro w3 hrg3 hg3 hs3))
 go_frame
 simp only[World.size_alloc]
 have C3:Hid (Whole w3 w.heap.size 73 #[int i64 10,int i64 1,.slice (some ⟨G,0,none⟩) 2 2,.slice (some ⟨M,0,none⟩) 4 4,.slice (some ⟨C,0,none⟩) 2 2,.slice A n p]):=hid (((C1.out.below hb2 C1.out.lt).alloc _).grown hg3 zs)
 have N3:Hid (Whole w3 w2.heap.size 75 #[int i64 0,int i64 0,int i64 0]):=hid ((Whole.new w2 _ _).grown hg3 zs)
 have HB3:Hid (Below w.heap.size w w3):=hid ((Below.al (Below.next B1.out hb2) _).trans (below_grown hg3 (by have:=(Below.next B1.out hb2).size;simp;omega) (fun g hg=>by cases hg)))
 have hM0:=hM2
 have ZS:=O2.out.lt
 have OD:=hb2.size
 have aaQ:=C1.out.lt
 simp only[World.size_alloc] at hs3 ZS hrg3
 have aaq:Mp<w2.heap.size+1:=ZS
 have HRG:=hid hrg3
 clear hrg3 hg3 O2 HR C1 B1 hb2 nK
 gi_loopw [] (fun wr=>∃ (left:Lit→Bool) (cnt:Nat),wr.ranges prog 133 (plainElem prog 3) Mp (w2.heap.size+1) nn DT left cnt∧(∀kl,left kl=true→kl∈tG)∧Hid (Whole wr w2.heap.size 75 #[int i64 (Ph (left (eH 0 4)) (left (eH 0 5))),int i64 (QD (left (eH 1 5))),int i64 (QD (left (eH 2 0)))]∧Whole wr w.heap.size 73 #[int i64 10,int i64 1,.slice (some ⟨G,0,none⟩) 2 2,.slice (some ⟨M,0,none⟩) 4 4,.slice (some ⟨C,0,none⟩) 2 2,.slice A n p]∧Below w.heap.size w wr))
  (fun wr=>wr.rangeLeft Mp (w2.heap.size+1))
 case atStart=>
  refine⟨Maps.has DT,Maps.size DT,HRG.out,IM,hid ⟨?_,C3.out,HB3.out⟩⟩
  rw[rf,rh,ri,rj]
  exact N3.out
 case round=>
  obtain⟨left,cnt,hrg,hks,hW⟩:=hrel
  gi_wp2_with (gi_at_next;refine wpListIn_next_ranges _ rfl _ rfl 133 dW (plainElem prog 3) id id (fun key _ _=>⟨key,rfl⟩) (fun v _ _=>⟨v,rfl⟩) Mp (w2.heap.size+1) nn _ _ _ rfl hrg ?_ ?_)
  ·intro hc0 hl0
   have N9:Whole wr w2.heap.size 75 #[int i64 2,int i64 4,int i64 4]:=by
    have:=hW.out.1
    rw[hl0,hl0,hl0,hl0] at this
    exact this
   have nF:=hid (Wx w2.heap.size wr (N9.cell 0) (N9.cell 1))
   have d0:wr.cell? ⟨w.heap.size,0,none⟩=some (int i64 10):=hW.out.2.1.cell 0
   have d1:wr.cell? ⟨w.heap.size,1,none⟩=some (int i64 1):=hW.out.2.1.cell 1
   have d2:wr.cell? ⟨w.heap.size,2,none⟩=some (.slice (some ⟨G,0,none⟩) 2 2):=hW.out.2.1.cell 2
   have d3:wr.cell? ⟨w.heap.size,3,none⟩=some (.slice (some ⟨M,0,none⟩) 4 4):=hW.out.2.1.cell 3
   have d4:wr.cell? ⟨w.heap.size,4,none⟩=some (.slice (some ⟨C,0,none⟩) 2 2):=hW.out.2.1.cell 4
   have d5:wr.cell? ⟨w.heap.size,5,none⟩=some (.slice A n p):=hW.out.2.1.cell 5
   have uK:=hW.out.2.2
   clear N9 hl0 hrg hks
   gi_wp2_with (gi_at_call 84;refine nF.out.mono ?_;rintro e w5 ⟨rfl,rfl⟩)
   go_ret2
   exact⟨rfl,uK⟩
  ·intro x c kl yd yp w4 FU hkey hlk hv hat vR Xp hg4 hs4 hen
   have hcase:=Zv x c kl (yd,yp) hkey (hks kl hlk) hv hat
   have N4:=hid (hW.out.1.grown hg4 zs)
   have C4:=hid (hW.out.2.1.grown hg4 zm)
   have Au:Hid (Below w.heap.size w w4):=hid (hW.out.2.2.trans (below_grown hg4 (by have:=hW.out.2.1.lt;omega) (fun g hg=>by cases hg;omega)))
   have hn4:=N4.out.lt
   obtain⟨b0,hb0⟩:∃b,b=left (eH 0 4):=⟨_,rfl⟩
   obtain⟨b1,hb1⟩:∃b,b=left (eH 0 5):=⟨_,rfl⟩
   obtain⟨b2,hb2⟩:∃b,b=left (eH 1 5):=⟨_,rfl⟩
   obtain⟨b3,hb3⟩:∃b,b=left (eH 2 0):=⟨_,rfl⟩
   rw[← hb0,← hb1,← hb2,← hb3] at N4
   obtain⟨m0,hm0⟩:∃m,m=Ph b0 b1:=⟨_,rfl⟩
   obtain⟨m1,hm1⟩:∃m,m=QD b2:=⟨_,rfl⟩
   obtain⟨m2,hm2⟩:∃m,m=QD b3:=⟨_,rfl⟩
   rw[← hm0,← hm1,← hm2] at N4
   have xm:Hid (wr.rangeLeft Mp (w2.heap.size+1)=cnt):=hid hrg.left_eq
   have cg:=hid hks
   have HB:=hid (And.intro hb0 (And.intro hb1 (And.intro hb2 (And.intro hb3 (And.intro hm0 (And.intro hm1 hm2))))))
   clear hks hrg hkey hv hat hg4 hW hb0 hb1 hb2 hb3 hm0 hm1 hm2
   rcases hcase with⟨hkl,rfl,rfl⟩|⟨hkl,rfl,rfl⟩|⟨hkl,rfl,rfl⟩|⟨hkl,rfl,rfl⟩
   ·rw[hkl] at vR hlk
    have Je:=hid vR
    have cm:=hid hlk
    clear vR hlk hkl
    obtain⟨W5,nE⟩:∃W5,W5=w4.alloc (.cells #[int i64 0,int i64 4] 133):=⟨_,rfl⟩
    have X5:Whole W5 wr.heap.size 133 #[int i64 0,int i64 4]:=by rw[nE,← hs4];exact Whole.new _ _ _
    have N5:=hid (by rw[nE];exact N4.out.alloc _:Whole W5 w2.heap.size 75 #[int i64 m0,int i64 m1,int i64 m2])
    have C5:=hid (by rw[nE];exact C4.out.alloc _:Whole W5 w.heap.size 73 #[int i64 10,int i64 1,.slice (some ⟨G,0,none⟩) 2 2,.slice (some ⟨M,0,none⟩) 4 4,.slice (some ⟨C,0,none⟩) 2 2,.slice A n p])
    have Dw:Hid (Below w.heap.size w W5):=hid (by rw[nE];exact Below.al Au.out _)
    have R5:=hid (by rw[nE];exact Je.out.alloc _:W5.ranges prog 133 (plainElem prog 3) Mp (w2.heap.size+1) nn DT (fun z=>left z && !z.sameKey (eH 0 4)) FU)
    have x0:∀d os,(grow (redrawn W5 d) os).cell? ⟨wr.heap.size,0,none⟩=some (int i64 0):=cell_regrown (X5.cell 0)
    have q0:∀d os,(grow (redrawn W5 d) os).cell? ⟨w2.heap.size,0,none⟩=some (int i64 m0):=cell_regrown (N5.out.cell 0)
    have cw:=hid nE
    clear nE X5
    gi_wp2
    rw[← cw.out]
    refine aJ 8 rfl zk zk ?_
    repeat (quiet_step_in (fail))
    refine wpQuietIn_nil ?_
    rintro w' ⟨⟨dq,osq⟩,rfl⟩
    have bE:=below_regrown W5 dq osq
    clear x0 q0
    have N9:=N5.out.below bE N5.out.lt
    have C9:=hid (C5.out.below bE C5.out.lt)
    have uK:=hid (Below.next Dw.out bE)
    have R9:=hid (R5.out.kept (w':=grow (redrawn W5 dq) osq) (row:=none) ⟨bE.os,bE.tape,bE.output,bE.size,fun i hi _=>bE.block i hi⟩ zs zs)
    simp only at N9 C9 uK R9⊢
    generalize grow (redrawn W5 dq) osq=w9 at N9 C9 uK R9⊢
    clear bE
    have n0:w9.cell? ⟨w2.heap.size,0,none⟩=some (int i64 m0):=N9.cell 0
    have nf:=N9.thaw
    have dg:=hid N9
    clear N9
    gi_wp2
    go_roundw
    case rel=>
     obtain⟨hb0,hb1,hb2,hb3,hm0,hm1,hm2⟩:=HB.out
     have hlq:=cm.out
     rw[← hb0] at hlq
     refine⟨fun z=>left z && !z.sameKey (eH 0 4),FU,?_,fun kl h=>cg.out kl (by simp only[Bool.and_eq_true] at h;exact h.1),hid ⟨?_,C9.out.other zn _,uK.out.setCell zn _⟩⟩
     ·exact R9.out.kept (row:=some w2.heap.size) ⟨rfl,rfl,rfl,by simp[World.setCell],fun i hi hne=>Below.heap_setCell _ _ _ _ (fun e=>hne (by rw[e]))⟩ zm zs
     ·dsimp only
      rw[Yh,Yl,Yp,Yu,← hb0,← hb1,← hb2,← hb3]
      have F:=dg.out.set 0 (int i64 (max m0 2))
      have e0:Ph (b0 && !true) (b1 && !false)=max m0 2:=by rw[hm0];cases b0 <;> cases b1 <;> first|decide|(cases hlq)
      have e1:QD (b2 && !false)=m1:=by rw[hm1];cases b2 <;> first|decide|(cases hlq)
      have e2:QD (b3 && !false)=m2:=by rw[hm2];cases b3 <;> first|decide|(cases hlq)
      rw[e0,e1,e2]
      exact F
    case measure=>
     have h1:=xm.out
     rw[h1]
     have h2:=(R9.out.kept (w':=w9.setCell ⟨w2.heap.size,0,none⟩ (int i64 (max m0 2))) (row:=some w2.heap.size) ⟨rfl,rfl,rfl,by simp[World.setCell],fun i hi hne=>Below.heap_setCell _ _ _ _ (fun e=>hne (by rw[e]))⟩ zm zs).left_eq
     rw[h2]
     exact Xp
   ·rw[hkl] at vR hlk
    have Je:=hid vR
    have cm:=hid hlk
    clear vR hlk hkl
    obtain⟨W5,nE⟩:∃W5,W5=w4.alloc (.cells #[int i64 0,int i64 5] 133):=⟨_,rfl⟩
    have X5:Whole W5 wr.heap.size 133 #[int i64 0,int i64 5]:=by rw[nE,← hs4];exact Whole.new _ _ _
    have N5:=hid (by rw[nE];exact N4.out.alloc _:Whole W5 w2.heap.size 75 #[int i64 m0,int i64 m1,int i64 m2])
    have C5:=hid (by rw[nE];exact C4.out.alloc _:Whole W5 w.heap.size 73 #[int i64 10,int i64 1,.slice (some ⟨G,0,none⟩) 2 2,.slice (some ⟨M,0,none⟩) 4 4,.slice (some ⟨C,0,none⟩) 2 2,.slice A n p])
    have Dw:Hid (Below w.heap.size w W5):=hid (by rw[nE];exact Below.al Au.out _)
    have R5:=hid (by rw[nE];exact Je.out.alloc _:W5.ranges prog 133 (plainElem prog 3) Mp (w2.heap.size+1) nn DT (fun z=>left z && !z.sameKey (eH 0 5)) FU)
    have x0:∀d os,(grow (redrawn W5 d) os).cell? ⟨wr.heap.size,0,none⟩=some (int i64 0):=cell_regrown (X5.cell 0)
    have q0:∀d os,(grow (redrawn W5 d) os).cell? ⟨w2.heap.size,0,none⟩=some (int i64 m0):=cell_regrown (N5.out.cell 0)
    have cw:=hid nE
    clear nE X5
    gi_wp2
    rw[← cw.out]
    refine aJ 8 rfl zk zk ?_
    repeat (quiet_step_in (fail))
    refine wpQuietIn_nil ?_
    rintro w' ⟨⟨dq,osq⟩,rfl⟩
    have bE:=below_regrown W5 dq osq
    clear x0 q0
    have N9:=N5.out.below bE N5.out.lt
    have C9:=hid (C5.out.below bE C5.out.lt)
    have uK:=hid (Below.next Dw.out bE)
    have R9:=hid (R5.out.kept (w':=grow (redrawn W5 dq) osq) (row:=none) ⟨bE.os,bE.tape,bE.output,bE.size,fun i hi _=>bE.block i hi⟩ zs zs)
    simp only at N9 C9 uK R9⊢
    generalize grow (redrawn W5 dq) osq=w9 at N9 C9 uK R9⊢
    clear bE
    have n0:w9.cell? ⟨w2.heap.size,0,none⟩=some (int i64 m0):=N9.cell 0
    have nf:=N9.thaw
    have dg:=hid N9
    clear N9
    gi_wp2
    go_roundw
    case rel=>
     obtain⟨hb0,hb1,hb2,hb3,hm0,hm1,hm2⟩:=HB.out
     have hlq:=cm.out
     rw[← hb1] at hlq
     refine⟨fun z=>left z && !z.sameKey (eH 0 5),FU,?_,fun kl h=>cg.out kl (by simp only[Bool.and_eq_true] at h;exact h.1),hid ⟨?_,C9.out.other zn _,uK.out.setCell zn _⟩⟩
     ·exact R9.out.kept (row:=some w2.heap.size) ⟨rfl,rfl,rfl,by simp[World.setCell],fun i hi hne=>Below.heap_setCell _ _ _ _ (fun e=>hne (by rw[e]))⟩ zm zs
     ·dsimp only
      rw[Yi,Ym,Yq,Yv,← hb0,← hb1,← hb2,← hb3]
      have F:=dg.out.set 0 (int i64 (max m0 2))
      have e0:Ph (b0 && !false) (b1 && !true)=max m0 2:=by rw[hm0];cases b0 <;> cases b1 <;> first|decide|(cases hlq)
      have e1:QD (b2 && !false)=m1:=by rw[hm1];cases b2 <;> first|decide|(cases hlq)
      have e2:QD (b3 && !false)=m2:=by rw[hm2];cases b3 <;> first|decide|(cases hlq)
      rw[e0,e1,e2]
      exact F
    case measure=>
     have h1:=xm.out
     rw[h1]
     have h2:=(R9.out.kept (w':=w9.setCell ⟨w2.heap.size,0,none⟩ (int i64 (max m0 2))) (row:=some w2.heap.size) ⟨rfl,rfl,rfl,by simp[World.setCell],fun i hi hne=>Below.heap_setCell _ _ _ _ (fun e=>hne (by rw[e]))⟩ zm zs).left_eq
     rw[h2]
     exact Xp
   ·rw[hkl] at vR hlk
    have Je:=hid vR
    have cm:=hid hlk
    clear vR hlk hkl
    obtain⟨W5,nE⟩:∃W5,W5=w4.alloc (.cells #[int i64 1,int i64 5] 133):=⟨_,rfl⟩
    have X5:Whole W5 wr.heap.size 133 #[int i64 1,int i64 5]:=by rw[nE,← hs4];exact Whole.new _ _ _
    have N5:=hid (by rw[nE];exact N4.out.alloc _:Whole W5 w2.heap.size 75 #[int i64 m0,int i64 m1,int i64 m2])
    have C5:=hid (by rw[nE];exact C4.out.alloc _:Whole W5 w.heap.size 73 #[int i64 10,int i64 1,.slice (some ⟨G,0,none⟩) 2 2,.slice (some ⟨M,0,none⟩) 4 4,.slice (some ⟨C,0,none⟩) 2 2,.slice A n p])
    have Dw:Hid (Below w.heap.size w W5):=hid (by rw[nE];exact Below.al Au.out _)
    have R5:=hid (by rw[nE];exact Je.out.alloc _:W5.ranges prog 133 (plainElem prog 3) Mp (w2.heap.size+1) nn DT (fun z=>left z && !z.sameKey (eH 1 5)) FU)
    have x0:∀d os,(grow (redrawn W5 d) os).cell? ⟨wr.heap.size,0,none⟩=some (int i64 1):=cell_regrown (X5.cell 0)
    have q0:∀d os,(grow (redrawn W5 d) os).cell? ⟨w2.heap.size,1,none⟩=some (int i64 m1):=cell_regrown (N5.out.cell 1)
    have cw:=hid nE
    clear nE X5
    gi_wp2
    rw[← cw.out]
    refine aJ 8 rfl zk zk ?_
    repeat (quiet_step_in (fail))
    refine wpQuietIn_nil ?_
    rintro w' ⟨⟨dq,osq⟩,rfl⟩
    have bE:=below_regrown W5 dq osq
    clear x0 q0
    have N9:=N5.out.below bE N5.out.lt
    have C9:=hid (C5.out.below bE C5.out.lt)
    have uK:=hid (Below.next Dw.out bE)
    have R9:=hid (R5.out.kept (w':=grow (redrawn W5 dq) osq) (row:=none) ⟨bE.os,bE.tape,bE.output,bE.size,fun i hi _=>bE.block i hi⟩ zs zs)
    simp only at N9 C9 uK R9⊢
    generalize grow (redrawn W5 dq) osq=w9 at N9 C9 uK R9⊢
    clear bE
    have n0:w9.cell? ⟨w2.heap.size,1,none⟩=some (int i64 m1):=N9.cell 1
    have nf:=N9.thaw
    have dg:=hid N9
    clear N9
    gi_wp2
    go_roundw
    case rel=>
     obtain⟨hb0,hb1,hb2,hb3,hm0,hm1,hm2⟩:=HB.out
     have hlq:=cm.out
     rw[← hb2] at hlq
     refine⟨fun z=>left z && !z.sameKey (eH 1 5),FU,?_,fun kl h=>cg.out kl (by simp only[Bool.and_eq_true] at h;exact h.1),hid ⟨?_,C9.out.other zn _,uK.out.setCell zn _⟩⟩
     ·exact R9.out.kept (row:=some w2.heap.size) ⟨rfl,rfl,rfl,by simp[World.setCell],fun i hi hne=>Below.heap_setCell _ _ _ _ (fun e=>hne (by rw[e]))⟩ zm zs
     ·dsimp only
      rw[Yj,Yn,Yr,Yw,← hb0,← hb1,← hb2,← hb3]
      have F:=dg.out.set 1 (int i64 (max m1 4))
      have e0:Ph (b0 && !false) (b1 && !false)=m0:=by rw[hm0];cases b0 <;> cases b1 <;> first|decide|(cases hlq)
      have e1:QD (b2 && !true)=max m1 4:=by rw[hm1];cases b2 <;> first|decide|(cases hlq)
      have e2:QD (b3 && !false)=m2:=by rw[hm2];cases b3 <;> first|decide|(cases hlq)
      rw[e0,e1,e2]
      exact F
    case measure=>
     have h1:=xm.out
     rw[h1]
     have h2:=(R9.out.kept (w':=w9.setCell ⟨w2.heap.size,1,none⟩ (int i64 (max m1 4))) (row:=some w2.heap.size) ⟨rfl,rfl,rfl,by simp[World.setCell],fun i hi hne=>Below.heap_setCell _ _ _ _ (fun e=>hne (by rw[e]))⟩ zm zs).left_eq
     rw[h2]
     exact Xp
   ·rw[hkl] at vR hlk
    have Je:=hid vR
    have cm:=hid hlk
    clear vR hlk hkl
    obtain⟨W5,nE⟩:∃W5,W5=w4.alloc (.cells #[int i64 2,int i64 0] 133):=⟨_,rfl⟩
    have X5:Whole W5 wr.heap.size 133 #[int i64 2,int i64 0]:=by rw[nE,← hs4];exact Whole.new _ _ _
    have N5:=hid (by rw[nE];exact N4.out.alloc _:Whole W5 w2.heap.size 75 #[int i64 m0,int i64 m1,int i64 m2])
    have C5:=hid (by rw[nE];exact C4.out.alloc _:Whole W5 w.heap.size 73 #[int i64 10,int i64 1,.slice (some ⟨G,0,none⟩) 2 2,.slice (some ⟨M,0,none⟩) 4 4,.slice (some ⟨C,0,none⟩) 2 2,.slice A n p])
    have Dw:Hid (Below w.heap.size w W5):=hid (by rw[nE];exact Below.al Au.out _)
    have R5:=hid (by rw[nE];exact Je.out.alloc _:W5.ranges prog 133 (plainElem prog 3) Mp (w2.heap.size+1) nn DT (fun z=>left z && !z.sameKey (eH 2 0)) FU)
    have x0:∀d os,(grow (redrawn W5 d) os).cell? ⟨wr.heap.size,0,none⟩=some (int i64 2):=cell_regrown (X5.cell 0)
    have q0:∀d os,(grow (redrawn W5 d) os).cell? ⟨w2.heap.size,2,none⟩=some (int i64 m2):=cell_regrown (N5.out.cell 2)
    have cw:=hid nE
    clear nE X5
    gi_wp2
    rw[← cw.out]
    refine aJ 8 rfl zk zk ?_
    repeat (quiet_step_in (fail))
    refine wpQuietIn_nil ?_
    rintro w' ⟨⟨dq,osq⟩,rfl⟩
    have bE:=below_regrown W5 dq osq
    clear x0 q0
    have N9:=N5.out.below bE N5.out.lt
    have C9:=hid (C5.out.below bE C5.out.lt)
    have uK:=hid (Below.next Dw.out bE)
    have R9:=hid (R5.out.kept (w':=grow (redrawn W5 dq) osq) (row:=none) ⟨bE.os,bE.tape,bE.output,bE.size,fun i hi _=>bE.block i hi⟩ zs zs)
    simp only at N9 C9 uK R9⊢
    generalize grow (redrawn W5 dq) osq=w9 at N9 C9 uK R9⊢
    clear bE
    have n0:w9.cell? ⟨w2.heap.size,2,none⟩=some (int i64 m2):=N9.cell 2
    have nf:=N9.thaw
    have dg:=hid N9
    clear N9
    gi_wp2
    go_roundw
    case rel=>
     obtain⟨hb0,hb1,hb2,hb3,hm0,hm1,hm2⟩:=HB.out
     have hlq:=cm.out
     rw[← hb3] at hlq
     refine⟨fun z=>left z && !z.sameKey (eH 2 0),FU,?_,fun kl h=>cg.out kl (by simp only[Bool.and_eq_true] at h;exact h.1),hid ⟨?_,C9.out.other zn _,uK.out.setCell zn _⟩⟩
     ·exact R9.out.kept (row:=some w2.heap.size) ⟨rfl,rfl,rfl,by simp[World.setCell],fun i hi hne=>Below.heap_setCell _ _ _ _ (fun e=>hne (by rw[e]))⟩ zm zs
     ·dsimp only
      rw[Yk,Yo,Yt,Yx,← hb0,← hb1,← hb2,← hb3]
      have F:=dg.out.set 2 (int i64 (max m2 4))
      have e0:Ph (b0 && !false) (b1 && !false)=m0:=by rw[hm0];cases b0 <;> cases b1 <;> first|decide|(cases hlq)
      have e1:QD (b2 && !false)=m1:=by rw[hm1];cases b2 <;> first|decide|(cases hlq)
      have e2:QD (b3 && !true)=max m2 4:=by rw[hm2];cases b3 <;> first|decide|(cases hlq)
      rw[e0,e1,e2]
      exact F
    case measure=>
     have h1:=xm.out
     rw[h1]
     have h2:=(R9.out.kept (w':=w9.setCell ⟨w2.heap.size,2,none⟩ (int i64 (max m2 4))) (row:=some w2.heap.size) ⟨rfl,rfl,rfl,by simp[World.setCell],fun i hi hne=>Below.heap_setCell _ _ _ _ (fun e=>hne (by rw[e]))⟩ zm zs).left_eq
     rw[h2]
     exact Xp
end
section
open Go.RowKit Go.Maps
attribute [local go_sem] Oper.semAt_some
theorem PL(G M C:Nat)(w:World)(h:(Tb 1 G M C).At w w.heap.size):CallsIn FF 0 prog 22 #[(Tb 1 G M C).val] w fun e w'=>e=.returned (.tuple #[int i64 0,int i64 2,int i64 0])∧Below w.heap.size w w':=by
 have HO:=hid fun w h=>nU (Tb 1 G M C) w h (jY 1 zD G M C) (Nat.le_refl 2)
 have HB:=hid fun A p w hc=>pw G M C A p w hc
 have HA:=hid h
 obtain⟨n,hn⟩:∃n,n=(au (Tb 1 G M C)).length:=⟨_,rfl⟩
 rw[← hn] at HO HB
 clear hn h
 have CH:Hid (∀A w,oV (Tb 1 G M C) A w→∀w',Below w.heap.size w w'→oV (Tb 1 G M C) A w'):=hid fun A w h w' hb=>h.below hb
 simp only[Tb,Bk.val,Bk.cells,ay] at HO HB⊢
 gi_enter func22,ntmps22
 gi_wp2_with (first
  | (gi_at_call 36;refine(HO.out _ (HA.out.up (bw))).mono ?_;rintro e w2 ⟨A,p,rfl,hc2,hb2,-⟩)
  | (gi_at_call 61;refine(HB.out A p _ (CH.out A _ hc2 _ (bw))).mono ?_;rintro e w4 ⟨rfl,hb4⟩))
 go_ret3
 have JX:=Below.al (Below.next (show Below w.heap.size w (w.alloc (.cells #[int i64 10,int i64 1,.slice (some ⟨G,0,none⟩) 2 2,.slice (some ⟨M,0,none⟩) 4 4,.slice (some ⟨C,0,none⟩) 2 2] 26)) from bw) hb2) (.cells #[int i64 10,int i64 1,.slice (some ⟨G,0,none⟩) 2 2,.slice (some ⟨M,0,none⟩) 4 4,.slice (some ⟨C,0,none⟩) 2 2,.slice A n p] 73)
 exact⟨rfl,Below.next JX hb4⟩
end
section
open Go.RowKit
theorem Tw(B b1 b2 b3 b4 b5:Nat)(w:World)(hB:B<w.heap.size)
 (l0:w.cell? ⟨B,0,none⟩=some (.func (.func 92) #[] #[.pointer (some ⟨b1,0,none⟩),.pointer (some ⟨b2,0,none⟩)]))
 (l1:w.cell? ⟨B,1,none⟩=some (.func (.func 93) #[] #[.pointer (some ⟨b3,0,none⟩),.pointer (some ⟨b2,0,none⟩)]))
 (l2:w.cell? ⟨B,2,none⟩=some (.func (.func 94) #[] #[.pointer (some ⟨b4,0,none⟩),.pointer (some ⟨b5,0,none⟩)]))
 (h1:∀w',Below w.heap.size w w'→CallsIn FF 0 prog 92 #[.pointer (some ⟨b1,0,none⟩),.pointer (some ⟨b2,0,none⟩)] w' fun e w2=>e=.returned (int i64 0)∧Below w'.heap.size w' w2)
 (h2:∀w',Below w.heap.size w w'→CallsIn FF 0 prog 93 #[.pointer (some ⟨b3,0,none⟩),.pointer (some ⟨b2,0,none⟩)] w' fun e w2=>e=.returned (int i64 0)∧Below w'.heap.size w' w2)
 (h3:∀w',Below w.heap.size w w'→CallsIn FF 0 prog 94 #[.pointer (some ⟨b4,0,none⟩),.pointer (some ⟨b5,0,none⟩)] w' fun e w2=>e=.returned (int i64 0)∧Below w'.heap.size w' w2):
 CallsIn FF 0 prog 91 #[.slice (some ⟨B,0,none⟩) 3 3] w fun e w'=>e=.returned (int i64 0)∧Below w.heap.size w w':=by
 have H1:=hid h1
 have H2:=hid h2
 have H3:=hid h3
 have L0:=hid l0
 have L1:=hid l1
 have L2:=hid l2
 clear h1 h2 h3 l0 l1 l2
 gi_enter func91,ntmps91
 gi_wp2
 gi_loopw [8] (fun i wr=>∃k:Nat,k≤3∧i=int i64 k∧Below w.heap.size w wr) (fun i _=>3 - (intOf i).toNat)
 case atStart=>exact⟨0,zo,rfl,Below.refl _ _⟩
 case round=>
  obtain⟨k,hk,rfl,hb⟩:=hrel
  have hsz:=hb.size
  by_cases hlt:k<3
  ·rcases(show k=0∨k=1∨k=2 by omega) with rfl|rfl|rfl
   ·have c0:=(hb.cell (p:=⟨B,0,none⟩) hB).trans L0.out
    gi_wp2_with (gi_at_call 92;refine(H1.out _ hb).mono ?_;rintro e w2 ⟨rfl,hb2⟩)
    go_roundw
    case rel=>exact⟨0+1,zo,by go_num,hb.trans (hb2.mono hsz)⟩
    case measure=>simp[intOf]
   ·have c0:=(hb.cell (p:=⟨B,1,none⟩) hB).trans L1.out
    gi_wp2_with (gi_at_call 93;refine(H2.out _ hb).mono ?_;rintro e w2 ⟨rfl,hb2⟩)
    go_roundw
    case rel=>exact⟨1+1,zo,by go_num,hb.trans (hb2.mono hsz)⟩
    case measure=>simp[intOf]
   ·have c0:=(hb.cell (p:=⟨B,2,none⟩) hB).trans L2.out
    gi_wp2_with (gi_at_call 94;refine(H3.out _ hb).mono ?_;rintro e w2 ⟨rfl,hb2⟩)
    go_roundw
    case rel=>exact⟨2+1,zo,by go_num,hb.trans (hb2.mono hsz)⟩
    case measure=>simp[intOf]
  ·obtain rfl:k=3:=zo
   gi_wp2
   go_ret
   exact⟨rfl,hb⟩
theorem dN{w w':World}{A:Option Addr}{n:Nat}{xs:Nat→Int}(h:Ints w w.heap.size A n xs)(hb:Below w.heap.size w w'):Ints w' w'.heap.size A n xs:=(Rows.below h hb).more hb.size
theorem XY(xs:Nat→Int)(A:Option Addr)(n p:Nat)(gA:Option Addr)(gc B1 B2:Nat)(w:World)(hI:Ints w w.heap.size A n xs)(hn:n≤maxLen)(hx:∀i,i<n→0≤xs i∧xs i≤99)
 (c1:w.cell? ⟨B1,0,none⟩=some (.slice A n p))(c2:w.cell? ⟨B2,2,none⟩=some (.slice gA n gc)):
 CallsIn FF 0 prog 92 #[.pointer (some ⟨B1,0,none⟩),.pointer (some ⟨B2,0,none⟩)] w fun e w'=>e=.returned (int i64 0)∧Below w.heap.size w w':=by
 have H:=hid (JI xs A n p 99 w hI hn hx)
 clear hI hx
 gi_enter func92,ntmps92
 gi_wp2_with (gi_at_call 58;refine H.out.mono ?_;rintro e w2 ⟨rfl,hb2⟩)
 go_ret
 exact⟨rfl,hb2⟩
theorem XZ(xs:Nat→Int)(A:Option Addr)(n p:Nat)(gA:Option Addr)(gc B1 B2:Nat)(w:World)(hI:Ints w w.heap.size A n xs)(hn:n≤maxLen)(hx:∀i,i<n→0≤xs i∧xs i≤99)
 (c1:w.cell? ⟨B1,0,none⟩=some (.slice A n p))(c2:w.cell? ⟨B2,3,none⟩=some (.slice gA n gc)):
 CallsIn FF 0 prog 93 #[.pointer (some ⟨B1,0,none⟩),.pointer (some ⟨B2,0,none⟩)] w fun e w'=>e=.returned (int i64 0)∧Below w.heap.size w w':=by
 have H:=hid (JI xs A n p 99 w hI hn hx)
 clear hI hx
 gi_enter func93,ntmps93
 gi_wp2_with (gi_at_call 58;refine H.out.mono ?_;rintro e w2 ⟨rfl,hb2⟩)
 go_ret
 exact⟨rfl,hb2⟩
theorem Ya(xs:Nat→Int)(A:Option Addr)(n p M:Nat)(gA:Option Addr)(gc B1 B2:Nat)(w:World)(hI:Ints w w.heap.size A n xs)(hn:n≤maxLen)(hM:M≤maxLen)(hx:∀i,i<n→0≤xs i∧xs i≤(M:Int) - 1)(hup:∀i,i+1<n→xs i<xs (i+1))
 (c1:w.cell? ⟨B1,0,none⟩=some (.slice A n p))(c2:w.cell? ⟨B2,0,none⟩=some (.slice gA M gc)):
 CallsIn FF 0 prog 94 #[.pointer (some ⟨B1,0,none⟩),.pointer (some ⟨B2,0,none⟩)] w fun e w'=>e=.returned (int i64 0)∧Below w.heap.size w w':=by
 have H:=hid (Uo xs A n p M w hI hn hM hx hup)
 clear hI hx hup
 gi_enter func94,ntmps94
 gi_wp2_with (gi_at_call 95;refine H.out.mono ?_;rintro e w2 ⟨rfl,hb2⟩)
 go_ret
 exact⟨rfl,hb2⟩
end
end Go.Proofs.YtmjjocnfidnelaaGreat
