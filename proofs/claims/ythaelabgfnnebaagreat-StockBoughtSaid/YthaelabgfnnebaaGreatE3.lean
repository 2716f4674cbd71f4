/- HR2 HA0 HP -/
import Derived.Test.YthaelabgfnnebaaGreatE2
set_option maxRecDepth 100000
set_option maxHeartbeats 16000000
set_option linter.unusedVariables false
set_option linter.unusedSectionVars false
open Go.IntKind(i64)
open Go.Lib(hid)
open Go.Proofs.Tryz
open Go.Value(int)
namespace Go.Proofs.YthaelabgfnnebaaGreat
section
open Go.RowKit Go.Maps
open Go.Sort (grow)
attribute [local go_sem] Oper.semAt_some
def nL(kl:Nat→Int→Lit)(v:Ht→Nat→Int)(pre:List Ht):DataW Unit:=pre.foldl (fun D h=>qR (qR (qR D (kl 0 (v h 0))) (kl 1 (v h 1))) (kl 2 (v h 2))) (.map [])
theorem JZ(kl:Nat→Int→Lit)(v:Ht→Nat→Int)(pre:List Ht)(h:Ht):nL kl v (pre ++ [h])=qR (qR (qR (nL kl v pre) (kl 0 (v h 0))) (kl 1 (v h 1))) (kl 2 (v h 2)):=by unfold nL;rw[List.foldl_append];rfl
abbrev yu(W:World)(M n:Nat)(D:DataW Unit):Prop:=W.ownsMap prog 135 (plainElem prog 3) M n D
theorem RV(u v z:Int)(w:World):(Instr.index 85 (.agg #[int i64 u,int i64 v,int i64 z]) (int i64 0)).run prog w=.ok (int i64 u) w∧(Instr.index 85 (.agg #[int i64 u,int i64 v,int i64 z]) (int i64 1)).run prog w=.ok (int i64 v) w∧(Instr.index 85 (.agg #[int i64 u,int i64 v,int i64 z]) (int i64 2)).run prog w=.ok (int i64 z) w:=⟨zk,zk,zk⟩
theorem Wy(b:Bk)(ok:b.Ok)(hl:∀s∈ak b,cO s)(hlen:(aD b (ak b)).length<2 ^ 40)(v:Ht→Nat→Int)(hv:v=fun h=>stk b h b.days b.nm)(kl:Nat→Int→Lit)(hkey:∀h∈aD b (ak b),∀g:Nat,g<3→keyOf prog 135 (.agg #[int i64 g,int i64 (v h g)])=some (kl g (v h g)))(A:Option Addr)(p:Nat)(w:World)(hc:mZ b A w):
 CallsIn FF 0 prog 92 #[.agg (aA b A (ak b).length p)] w fun e w'=>∃M n,e=.returned (.tuple #[int i64 (aD b (ak b)).length,.map (some M)])∧n≤3 * (aD b (ak b)).length∧yu w' M n (nL kl v (aD b (ak b)))∧w.heap.size≤M∧Below w.heap.size w w':=by
 have hx:=gK b ok (ak b) hl
 have HH:=hid fun w=>nD (p:=FF.fn) b A (ak b).length p w
 have HIT:=hid fun(C:Nat→Prop) (Bc:Nat) (W:World) (hW:Below w.heap.size w W) (hC:∀x,C x→w.heap.size≤x∧x<W.heap.size) (hb:Whole W Bc 76 (aA b A (ak b).length p)) (cb:¬ C Bc)=>Jo (p:=FF.fn) b ok A p (ak b) hl (lC b ok) C w.heap.size Bc W (fun x hx=>(hC x hx).2) hb (hc.row.below hW) (hc.at_.below hW) hW.size cb (fun x hx h=>by have:=(hC _ h).1;omega)
 have HS:=hid fun W (h:Ht) (hh:h∈aD b (ak b)) hA=>show CallsIn FF 0 prog 42 #[b.val,h.val,int i64 b.days] W fun e w'=>e=.returned (lV (v h))∧Below W.heap.size W w' from by rw[hv];exact gu b h b.days W hA ok.moves ok.bn.1.2 (hx h hh)
 have HC:=hid hc
 have HA:=hid hc.at_
 have HK:=hid hkey
 obtain⟨n,hn⟩:∃n,n=(ak b).length:=⟨_,rfl⟩
 obtain⟨xs,hxs⟩:∃xs,xs=aD b (ak b):=⟨_,rfl⟩
 rw[← hn] at HH HIT⊢
 rw[← hxs] at HIT HS HK hlen⊢
 clear hn hxs hc hl ok hx hv hkey
 obtain⟨days,most,gA,ng,gc,g,mA,nm,mc,m,cA,nc,cc,c⟩:=b
 simp only[Bk.val,Bk.cells,aA,lV] at HH HIT HS⊢
 refine callsIn_of_wp_marks func92 rfl zs ?_ rfl
 simp only[ntmps92,List.size_toArray,List.length_cons,List.length_nil,Nat.reduceAdd,Nat.reduceSub,Array.replicate_succ,Array.replicate_zero,List.push_toArray,List.append_toArray,List.nil_append,List.cons_append]
 have hmm:=@run_makeMap prog
 obtain⟨W,hW⟩:∃W,W=(((w.alloc (.cells #[int i64 days,int i64 most,.slice gA ng gc,.slice mA nm mc,.slice cA nc cc,.slice A n p] 76)).alloc (.cells #[int i64 0] 3)).alloc (.cells #[.map (some (w.heap.size+1+1+1))] 131)).alloc (.map #[] 0):=⟨_,rfl⟩
 have B1:Hid (Below w.heap.size w W):=hid (by rw[hW];exact bw)
 have C1:Hid (Whole W w.heap.size 76 #[int i64 days,int i64 most,.slice gA ng gc,.slice mA nm mc,.slice cA nc cc,.slice A n p]):=hid (by rw[hW];exact(((Whole.new w _ _).alloc _).alloc _).alloc _)
 have N1:Hid (Whole W (w.heap.size+1) 3 #[int i64 0]):=hid (by rw[hW];exact((aM zs).alloc _).alloc _)
 have M1:Hid (Whole W (w.heap.size+1+1) 131 #[.map (some (w.heap.size+1+1+1))]):=hid (by rw[hW];exact(aM zs).alloc _)
 have O1:Hid (yu W (w.heap.size+1+1+1) 0 (nL kl v [])):=hid (by
  have:=World.ownsMap_made (H:=Unit) (((w.alloc (.cells #[int i64 days,int i64 most,.slice gA ng gc,.slice mA nm mc,.slice cA nc cc,.slice A n p] 76)).alloc (.cells #[int i64 0] 3)).alloc (.cells #[.map (some (w.heap.size+1+1+1))] 131)) prog 135 (plainElem prog 3)
  simp only[World.size_alloc] at this;rw[hW];exact this)
 have hsW:W.heap.size=w.heap.size+4:=by rw[hW];simp
 have HW:=hid hW
 clear hW
 gi_wp2_with (gi_at_call 40;rw[← HW.out];refine(HH.out W).mono ?_;rintro e w4 ⟨rfl,hw4,hb4,hs4⟩)
 clear hmm HW
 have B4:Hid (Below w.heap.size w w4):=hid (Below.next B1.out hb4)
 have C4:=hid (C1.out.below hb4 C1.out.lt)
 have N4:=hid (N1.out.below hb4 N1.out.lt)
 have M4:=hid (M1.out.below hb4 M1.out.lt)
 have O4:Hid (yu w4 (w.heap.size+1+1+1) 0 (nL kl v [])):=hid (bH O1.out (hb4.block _ zo))
 rw[hsW] at hw4
 have H4:=hid hw4
 clear hw4 hb4 B1 C1 N1 M1 O1
 obtain⟨CC,Ld⟩:∃CC:Nat→Prop,CC=fun x=>x=w.heap.size+1∨x=w.heap.size+1+1+1:=⟨_,rfl⟩
 have kY:∀x,CC x↔x=w.heap.size+1∨x=w.heap.size+1+1+1:=fun x=>by rw[Ld]
 clear Ld
 have eg:=enters_of func76 zk rfl
 have KI:=hid eg
 clear eg
 refine gB (C:=CC) rfl rfl (gf:=76) (lb:=#[.pointer (some ⟨w.heap.size+4,0,none⟩)]) rfl zs KI.out (encs:=fun h:Ht=>#[h.val]) (xs:=xs)
  (fun x hx=>by have:=(kY x).1 hx;omega) ?hseq (fun _=>rfl) (fun pre W'=>Hid (Whole W' (w.heap.size+1) 3 #[int i64 pre.length]∧yu W' (w.heap.size+1+1+1) (3 * pre.length) (nL kl v pre))) (fun c pre W'=>False)
  (fun pre A B h hb=>hid ⟨h.out.1.below hb zo,bH h.out.2 (hb.block _ zo)⟩) (fun c pre A B h hb=>h.elim) (hid ⟨N4.out,O4.out⟩) ?fD ?hdone ?hstop
 case hseq=>
  exact fun W2 hb2 hs2=>HIT.out _ _ W2 (Below.next B4.out hb2) (fun x hx=>by rw[kY] at hx;omega) (H4.out.below hb2 H4.out.lt) (fun hx=>by rw[kY] at hx;omega)
 case fD=>
  intro l' pre h A0 hl' hpre hj hk hsz hrec
  have hsn:=JZ kl v pre h
  have hpl:(pre ++ [h]).length=pre.length+1:=zs
  have Bm:=iB hpre
  rw[hpl,hsn]
  have K0:keyOf prog 135 (.agg #[int i64 0,int i64 (v h 0)])=some (kl 0 (v h 0)):=HK.out h (eu hpre) 0 zD
  have K1:keyOf prog 135 (.agg #[int i64 1,int i64 (v h 1)])=some (kl 1 (v h 1)):=HK.out h (eu hpre) 1 zD
  have K2:keyOf prog 135 (.agg #[int i64 2,int i64 (v h 2)])=some (kl 2 (v h 2)):=HK.out h (eu hpre) 2 zD
  have Hy:=hid fun W=>HS.out W h (eu hpre)
  obtain⟨v0,hv0⟩:∃x,x=v h 0:=⟨_,rfl⟩
  obtain⟨v1,hv1⟩:∃x,x=v h 1:=⟨_,rfl⟩
  obtain⟨v2,hv2⟩:∃x,x=v h 2:=⟨_,rfl⟩
  rw[← hv0] at K0 Hy⊢
  rw[← hv1] at K1 Hy⊢
  rw[← hv2] at K2 Hy⊢
  obtain⟨k0,hk0⟩:∃x,x=kl 0 v0:=⟨_,rfl⟩
  obtain⟨k1,hk1⟩:∃x,x=kl 1 v1:=⟨_,rfl⟩
  obtain⟨k2,hk2⟩:∃x,x=kl 2 v2:=⟨_,rfl⟩
  rw[← hk0] at K0⊢
  rw[← hk1] at K1⊢
  rw[← hk2] at K2⊢
  have Hq:=hid K0
  have R':=hid K1
  have Sa:=hid K2
  obtain⟨D,hD⟩:∃D,D=nL kl v pre:=⟨_,rfl⟩
  rw[← hD] at hj⊢
  clear hsn hpl hv0 hv1 hv2 hk0 hk1 hk2 hD K0 K1 K2
  obtain⟨hf,hmm,tT⟩:=h
  simp only[Ht.val,Ht.cells] at Hy⊢
  gi_wp2
  refine⟨bw,fun W2 hS=>?_⟩
  have nZ:Below (w.heap.size+5) A0 W2:=((Below.refl _ A0).alloc zo _).trans (hS.below zo)
  have hA2:A0.heap.size+1≤W2.heap.size:=by have:=hS.size;simp at this;exact Nat.le_of_eq this.symm
  have N2:=hid (hj.out.1.below nZ zo)
  have O2:Hid (yu W2 (w.heap.size+1+1+1) (3 * pre.length) D):=hid (bH hj.out.2 (nZ.block _ zo))
  have C2:Hid (Whole W2 w.heap.size 76 #[int i64 days,int i64 most,.slice gA ng gc,.slice mA nm mc,.slice cA nc cc,.slice A n p]):=hid ((C4.out.of (hk.block _ zo (fun hx=>by rw[kY] at hx;omega))).below nZ zo)
  have M2:Hid (Whole W2 (w.heap.size+1+1) 131 #[.map (some (w.heap.size+1+1+1))]):=hid ((M4.out.of (hk.block _ zo (fun hx=>by rw[kY] at hx;omega))).below nZ zo)
  have X2:Hid (Whole W2 A0.heap.size 88 (⟨hf,hmm,tT⟩:Ht).cells):=hid ((Whole.new A0 _ _).of (hS.block _ zo))
  have HB2:Hid (Below w.heap.size w W2):=hid ((B4.out.trans (hk.below (n:=w.heap.size) (fun b hb hc=>by have:=(kY b).1 hc;omega) zo)).trans (nZ.mono zo))
  have e1:wrap64 ((pre.length:Int)+1)=(pre.length:Int)+1:=IntWalk.wrap64_in _ (by have:=iB hpre;omega)
  have c6:W2.cell? ⟨w.heap.size+1,0,none⟩=some (int i64 pre.length):=N2.out.cell 0
  have f6:=N2.out.thaw
  obtain⟨W3,hW3⟩:∃W3,W3=W2.setCell ⟨w.heap.size+1,0,none⟩ (int i64 (pre.length+1)):=⟨_,rfl⟩
  have N3:Hid (Whole W3 (w.heap.size+1) 3 #[int i64 (pre.length+1)]):=hid (by rw[hW3];exact N2.out.set 0 (int i64 (pre.length+1)))
  have C3:Hid (Whole W3 w.heap.size 76 #[int i64 days,int i64 most,.slice gA ng gc,.slice mA nm mc,.slice cA nc cc,.slice A n p]):=hid (by rw[hW3];exact C2.out.other zF _)
  have M3:Hid (Whole W3 (w.heap.size+1+1) 131 #[.map (some (w.heap.size+1+1+1))]):=hid (by rw[hW3];exact M2.out.other zF _)
  have X3:Hid (Whole W3 A0.heap.size 88 (⟨hf,hmm,tT⟩:Ht).cells):=hid (by rw[hW3];exact X2.out.other zF _)
  have O3:Hid (yu W3 (w.heap.size+1+1+1) (3 * pre.length) D):=hid (by rw[hW3];exact bH O2.out (Below.heap_setCell _ _ _ _ zF))
  have K3:Hid (Keeps CC W2 W3):=hid (by rw[hW3];exact Keeps.set (p:=⟨w.heap.size+1,0,none⟩) (Keeps.refl _ _) ((kY _).2 (.inl rfl)) _)
  have HB3:Hid (Below w.heap.size w W3):=hid (by rw[hW3];exact HB2.out.setCell zs _)
  have hs3:W3.heap.size=W2.heap.size:=by rw[hW3];simp[World.setCell]
  have x0:W3.cell? ⟨A0.heap.size,0,none⟩=some (int i64 (hf 0)):=X3.out.cell 0
  have x1:W3.cell? ⟨A0.heap.size,1,none⟩=some (int i64 (hf 1)):=X3.out.cell 1
  have x2:W3.cell? ⟨A0.heap.size,2,none⟩=some (int i64 (hf 2)):=X3.out.cell 2
  have x3:W3.cell? ⟨A0.heap.size,3,none⟩=some (int i64 (hmm 0)):=X3.out.cell 3
  have x4:W3.cell? ⟨A0.heap.size,4,none⟩=some (int i64 (hmm 1)):=X3.out.cell 4
  have x5:W3.cell? ⟨A0.heap.size,5,none⟩=some (int i64 (hmm 2)):=X3.out.cell 5
  have x6:W3.cell? ⟨A0.heap.size,6,none⟩=some (int i64 (hmm 3)):=X3.out.cell 6
  have x7:W3.cell? ⟨A0.heap.size,7,none⟩=some (int i64 (hmm 4)):=X3.out.cell 7
  have x8:W3.cell? ⟨A0.heap.size,8,none⟩=some (int i64 (hmm 5)):=X3.out.cell 8
  have x9:W3.cell? ⟨A0.heap.size,9,none⟩=some (int i64 (tT)):=X3.out.cell 9
  have q0:W3.cell? ⟨w.heap.size,0,none⟩=some (int i64 days):=C3.out.cell 0
  have q1:W3.cell? ⟨w.heap.size,1,none⟩=some (int i64 most):=C3.out.cell 1
  have q2:W3.cell? ⟨w.heap.size,2,none⟩=some (.slice gA ng gc):=C3.out.cell 2
  have q3:W3.cell? ⟨w.heap.size,3,none⟩=some (.slice mA nm mc):=C3.out.cell 3
  have q4:W3.cell? ⟨w.heap.size,4,none⟩=some (.slice cA nc cc):=C3.out.cell 4
  rw[hW3] at q0 q1 q2 q3 q4 x0 x1 x2 x3 x4 x5 x6 x7 x8 x9
  have HW3:=hid hW3
  clear hW3 X2 O2 C2 M2 N2 nZ
  have BW:=fun u v z w=>(RV u v z w).1
  have BY:=fun u v z w=>(RV u v z w).2.1
  have B0:=fun u v z w=>(RV u v z w).2.2
  gi_wp2_with (gi_at_call 42;rw[← HW3.out];refine(Hy.out W3 (HA.out.up HB3.out)).mono ?_;rintro e W5 ⟨rfl,hb5⟩)
  have hlt3:=N3.out.lt
  have N5:=hid (N3.out.below hb5 N3.out.lt)
  have M5:=hid (M3.out.below hb5 M3.out.lt)
  have O5:Hid (yu W5 (w.heap.size+1+1+1) (3 * pre.length) D):=hid (bH O3.out (hb5.block _ zo))
  have K5:=hid (K3.out.trans (Keeps.bG hb5))
  have hs5:W2.heap.size≤W5.heap.size:=by have:=hb5.size;omega
  clear N3 M3 O3 K3 C3 X3 hb5 q0 q1 q2 q3 q4 x0 x1 x2 x3 x4 x5 x6 x7 x8 x9
  refine wpIn_loop_rounds 4 ?_
  rw[roundsIn_succ]
  gi_wp2
  refine IQ _ _ _ _ _ _ _ _ Hq.out _ (M5.out.cell 0) M5.out.lt zo O5.out zU _ _ _ _ _ _ _ _ _ _ _ _ _ _ _ _ _ _ _ _ _ _ _ _ _ _ _ _ _ _ _ _ _ _ _ ?hQ ?_
  case hQ=>exact fun _ _ _ _ h=>h
  intro y25 y26 y27 y28 y29 y30 y31 y32 W6 o6 s9
  have O6:=hid o6
  have N6:Hid (Whole W6 (w.heap.size+1) 3 #[int i64 (pre.length+1)]):=hid (N5.out.of (s9.block _ (by have:=N5.out.lt;omega) (by show ¬ (w.heap.size+1=w.heap.size+1+1+1);omega)))
  have M6:Hid (Whole W6 (w.heap.size+1+1) 131 #[.map (some (w.heap.size+1+1+1))]):=hid (M5.out.of (s9.block _ M5.out.lt (by show ¬ (w.heap.size+1+1=w.heap.size+1+1+1);omega)))
  have K6:Hid (Keeps CC W2 W6):=hid (K5.out.trans (s9.more (fun x _ hx=>(kY x).2 (.inr hx))))
  clear o6 s9
  simp only[Exit.inBlock,Exit.then]
  go_at_K
  gi_wp2
  rw[roundsIn_succ]
  gi_wp2
  refine IQ _ _ _ _ _ _ _ _ R'.out _ (M6.out.cell 0) M6.out.lt zo O6.out zU _ _ _ _ _ _ _ _ _ _ _ _ _ _ _ _ _ _ _ _ _ _ _ _ _ _ _ _ _ _ _ _ _ _ _ ?hQ ?_
  case hQ=>exact fun _ _ _ _ h=>h
  intro y25 y26 y27 y28 y29 y30 y31 y32 W7 o7 ta
  have O7:=hid o7
  have N7:Hid (Whole W7 (w.heap.size+1) 3 #[int i64 (pre.length+1)]):=hid (N6.out.of (ta.block _ (by have:=N6.out.lt;omega) (by show ¬ (w.heap.size+1=w.heap.size+1+1+1);omega)))
  have M7:Hid (Whole W7 (w.heap.size+1+1) 131 #[.map (some (w.heap.size+1+1+1))]):=hid (M6.out.of (ta.block _ M6.out.lt (by show ¬ (w.heap.size+1+1=w.heap.size+1+1+1);omega)))
  have K7:Hid (Keeps CC W2 W7):=hid (K6.out.trans (ta.more (fun x _ hx=>(kY x).2 (.inr hx))))
  clear o7 ta
  simp only[Exit.inBlock,Exit.then]
  go_at_K
  gi_wp2
  rw[roundsIn_succ]
  gi_wp2
  refine IQ _ _ _ _ _ _ _ _ Sa.out _ (M7.out.cell 0) M7.out.lt zo O7.out zU _ _ _ _ _ _ _ _ _ _ _ _ _ _ _ _ _ _ _ _ _ _ _ _ _ _ _ _ _ _ _ _ _ _ _ ?hQ ?_
  case hQ=>exact fun _ _ _ _ h=>h
  intro y25 y26 y27 y28 y29 y30 y31 y32 W8 o8 te
  have O8:=hid o8
  have N8:Hid (Whole W8 (w.heap.size+1) 3 #[int i64 (pre.length+1)]):=hid (N7.out.of (te.block _ (by have:=N7.out.lt;omega) (by show ¬ (w.heap.size+1=w.heap.size+1+1+1);omega)))
  have M8:Hid (Whole W8 (w.heap.size+1+1) 131 #[.map (some (w.heap.size+1+1+1))]):=hid (M7.out.of (te.block _ M7.out.lt (by show ¬ (w.heap.size+1+1=w.heap.size+1+1+1);omega)))
  have K8:Hid (Keeps CC W2 W8):=hid (K7.out.trans (te.more (fun x _ hx=>(kY x).2 (.inr hx))))
  clear o8 te
  simp only[Exit.inBlock,Exit.then]
  go_at_K
  gi_wp2
  rw[roundsIn_succ]
  gi_wp2
  exact⟨K8.out,hid ⟨by simpa using N8.out,by have:=O8.out;rwa[show 3 * pre.length+1+1+1=3 * (pre.length+1) by omega] at this⟩⟩
 case hdone=>
  intro W' hj hk hm
  have hlt1:=hj.out.1.lt
  have N5:=hid hj.out.1
  have M5:Hid (Whole W' (w.heap.size+1+1) 131 #[.map (some (w.heap.size+1+1+1))]):=hid (M4.out.of (hk.block _ zo (fun hx=>by rw[kY] at hx;omega)))
  have O5:=hid hj.out.2
  have Er:Hid (Below w.heap.size w W'):=hid (B4.out.trans (hk.below (n:=w.heap.size) (fun b hb hc=>by have:=(kY b).1 hc;omega) zo))
  have hms:Marks w4.heap.size (w4.heap.size+1) [{target:=.collected w4.heap.size,args:=#[] }] W':=⟨_,rfl,Nat.le_refl _,Nat.lt_succ_self _,hm,trivial⟩
  have Ql:=hid hms
  have hm1:w4.heap.size<W'.heap.size:=(Array.getElem?_eq_some_iff.1 hm).1
  clear hj hms hk hm hlen
  simp only[Exit.inBlock,Exit.then]
  go_at_K
  gi_wp2
  refine iK 3 (fun w'=>w'.cell? ⟨w.heap.size+1,0,none⟩=some (int i64 xs.length)∧w'.cell? ⟨w.heap.size+1+1,0,none⟩=some (.map (some (w.heap.size+1+1+1)))) zk ?_
  have N6:Hid (Whole W'.drew (w.heap.size+1) 3 #[int i64 xs.length]):=hid N5.out
  have M6:Hid (Whole W'.drew (w.heap.size+1+1) 131 #[.map (some (w.heap.size+1+1+1))]):=hid M5.out
  have O6:Hid (yu W'.drew (w.heap.size+1+1+1) (3 * xs.length) (nL kl v xs)):=hid O5.out.drew
  have lX:=hid (fZ Er.out)
  have ja:Hid (Marks w4.heap.size (w4.heap.size+1) [{target:=.collected w4.heap.size,args:=#[] }] W'.drew):=hid Ql.out
  have A6:w4.heap.size<W'.drew.heap.size:=hm1
  generalize W'.drew=W9 at N6 M6 O6 lX ja A6⊢
  have hS:W9.cell? ⟨w.heap.size+1,0,none⟩=some (int i64 xs.length)∧W9.cell? ⟨w.heap.size+1+1,0,none⟩=some (.map (some (w.heap.size+1+1+1))):=⟨N6.out.cell 0,M6.out.cell 0⟩
  have Zn:Hid (Marks (w.heap.size+4+1) (w.heap.size+4+1+1) [{target:=.collected (w.heap.size+4+1),args:=#[] }] W9):=hid (by have:=ja.out;rwa[show w4.heap.size=w.heap.size+4+1 by omega] at this)
  have c1:=hS.1
  have c2:=hS.2
  have f1:=N6.out.thaw
  have N7:=hid (N6.out.set 0 (int i64 xs.length))
  have M7:=hid (M6.out.other (p:=⟨w.heap.size+1,0,none⟩) zs (int i64 xs.length))
  have N8:=hid (N7.out.other (p:=⟨w.heap.size+1+1,0,none⟩) zs (.map (some (w.heap.size+1+1+1))))
  have M8:=hid (M7.out.set 0 (.map (some (w.heap.size+1+1+1))))
  have fN:=hid ((lX.out.setCell (p:=⟨w.heap.size+1,0,none⟩) (by show w.heap.size≤w.heap.size+1;omega) (int i64 xs.length)).setCell (p:=⟨w.heap.size+1+1,0,none⟩) (by show w.heap.size≤w.heap.size+1+1;omega) (.map (some (w.heap.size+1+1+1))))
  have O8:Hid (yu ((W9.setCell ⟨w.heap.size+1,0,none⟩ (int i64 xs.length)).setCell ⟨w.heap.size+1+1,0,none⟩ (.map (some (w.heap.size+1+1+1)))) (w.heap.size+1+1+1) (3 * xs.length) (nL kl v xs)):=hid (bH (bH O6.out (Below.heap_setCell _ _ _ _ zF)) (Below.heap_setCell _ _ _ _ zF))
  have mi:(W9.setCell ⟨w.heap.size+1,0,none⟩ (int i64 xs.length)).cell? ⟨w.heap.size+1,0,none⟩=some (int i64 xs.length)∧(W9.setCell ⟨w.heap.size+1,0,none⟩ (int i64 xs.length)).cell? ⟨w.heap.size+1+1,0,none⟩=some (.map (some (w.heap.size+1+1+1))):=⟨N7.out.cell 0,M7.out.cell 0⟩
  have d2:=mi.2
  have f2:=M7.out.thaw
  refine aR (i:=0) (i':=1) zk rfl rfl (fun K hK=>?_) (fun K hK=>?_)
  ·skip
   go_simp
   refine hK.out _ _ (fun _=>hS) ?_
   clear hK K
   refine aR (i:=1) (i':=2) zk rfl rfl (fun K hK=>?_) (fun K hK=>?_)
   ·skip
    go_simp
    refine hK.out _ _ (fun _=>hS) ?_
    clear hK K
    refine aY 2 fun K hK=>?_
    go_simp
    refine hK.out _ _ (fun _=>mi) ?_
    clear hK K
    refine aY 3 fun K hK=>?_
    go_simp
    refine hK.out _ _ (fun h=>absurd rfl h) ?_
    clear hK K
    refine aG zk ?_ _
    clear c1 c2 d2 f1 f2
    gi_wp2
    refine bN (lo:=w.heap.size+4+1) (hi:=w.heap.size+4+1+1) (Zn.out.of fun r h1 h2=>((Below.heap_setCell _ ⟨w.heap.size+1+1,0,none⟩ _ _ (by show r≠w.heap.size+1+1;omega)).trans (Below.heap_setCell _ ⟨w.heap.size+1,0,none⟩ _ _ (by show r≠w.heap.size+1;omega)))) (fun B hB=>⟨.tuple #[int i64 xs.length,.map (some (w.heap.size+1+1+1))],?_,w.heap.size+1+1+1,3 * xs.length,rfl,Nat.le_refl _,?_,zo,fN.out.trans (hB.below (n:=w.heap.size) (fun b hb hc=>zo) fN.out.size)⟩)
    ·have u1:=(hB.cell (p:=⟨w.heap.size+1,0,none⟩) N8.out.lt (fun hx=>by have h0:w.heap.size+4+1≤w.heap.size+1:=hx.1;omega)).trans (N8.out.cell 0)
     have u2:=(hB.cell (p:=⟨w.heap.size+1+1,0,none⟩) M8.out.lt (fun hx=>by have h0:w.heap.size+4+1≤w.heap.size+1+1:=hx.1;omega)).trans (M8.out.cell 0)
     simp[results,results92,go_sem,u1,u2]
    ·exact bH O8.out (hB.block _ O8.out.lt (fun hx=>by have h0:w.heap.size+4+1≤w.heap.size+1+1+1:=hx.1;omega))
   ·skip
    go_simp
    refine hK.out _ _ (fun _=>mi) ?_
    clear hK K
    refine aY 1 fun K hK=>?_
    go_simp
    refine hK.out _ _ (fun _=>mi) ?_
    clear hK K
    refine aY 3 fun K hK=>?_
    go_simp
    refine hK.out _ _ (fun h=>absurd rfl h) ?_
    clear hK K
    refine aG zk ?_ _
    clear c1 c2 d2 f1 f2
    gi_wp2
    refine bN (lo:=w.heap.size+4+1) (hi:=w.heap.size+4+1+1) (Zn.out.of fun r h1 h2=>((Below.heap_setCell _ ⟨w.heap.size+1+1,0,none⟩ _ _ (by show r≠w.heap.size+1+1;omega)).trans (Below.heap_setCell _ ⟨w.heap.size+1,0,none⟩ _ _ (by show r≠w.heap.size+1;omega)))) (fun B hB=>⟨.tuple #[int i64 xs.length,.map (some (w.heap.size+1+1+1))],?_,w.heap.size+1+1+1,3 * xs.length,rfl,Nat.le_refl _,?_,zo,fN.out.trans (hB.below (n:=w.heap.size) (fun b hb hc=>zo) fN.out.size)⟩)
    ·have u1:=(hB.cell (p:=⟨w.heap.size+1,0,none⟩) N8.out.lt (fun hx=>by have h0:w.heap.size+4+1≤w.heap.size+1:=hx.1;omega)).trans (N8.out.cell 0)
     have u2:=(hB.cell (p:=⟨w.heap.size+1+1,0,none⟩) M8.out.lt (fun hx=>by have h0:w.heap.size+4+1≤w.heap.size+1+1:=hx.1;omega)).trans (M8.out.cell 0)
     simp[results,results92,go_sem,u1,u2]
    ·exact bH O8.out (hB.block _ O8.out.lt (fun hx=>by have h0:w.heap.size+4+1≤w.heap.size+1+1+1:=hx.1;omega))
  ·skip
   go_simp
   refine hK.out _ _ (fun _=>hS) ?_
   clear hK K
   refine aY 0 fun K hK=>?_
   go_simp
   refine hK.out _ _ (fun _=>hS) ?_
   clear hK K
   refine aY 2 fun K hK=>?_
   go_simp
   refine hK.out _ _ (fun _=>mi) ?_
   clear hK K
   refine aY 3 fun K hK=>?_
   go_simp
   refine hK.out _ _ (fun h=>absurd rfl h) ?_
   clear hK K
   refine aG zk ?_ _
   clear c1 c2 d2 f1 f2
   gi_wp2
   refine bN (lo:=w.heap.size+4+1) (hi:=w.heap.size+4+1+1) (Zn.out.of fun r h1 h2=>((Below.heap_setCell _ ⟨w.heap.size+1+1,0,none⟩ _ _ (by show r≠w.heap.size+1+1;omega)).trans (Below.heap_setCell _ ⟨w.heap.size+1,0,none⟩ _ _ (by show r≠w.heap.size+1;omega)))) (fun B hB=>⟨.tuple #[int i64 xs.length,.map (some (w.heap.size+1+1+1))],?_,w.heap.size+1+1+1,3 * xs.length,rfl,Nat.le_refl _,?_,zo,fN.out.trans (hB.below (n:=w.heap.size) (fun b hb hc=>zo) fN.out.size)⟩)
   ·have u1:=(hB.cell (p:=⟨w.heap.size+1,0,none⟩) N8.out.lt (fun hx=>by have h0:w.heap.size+4+1≤w.heap.size+1:=hx.1;omega)).trans (N8.out.cell 0)
    have u2:=(hB.cell (p:=⟨w.heap.size+1+1,0,none⟩) M8.out.lt (fun hx=>by have h0:w.heap.size+4+1≤w.heap.size+1+1:=hx.1;omega)).trans (M8.out.cell 0)
    simp[results,results92,go_sem,u1,u2]
   ·exact bH O8.out (hB.block _ O8.out.lt (fun hx=>by have h0:w.heap.size+4+1≤w.heap.size+1+1+1:=hx.1;omega))
 case hstop=>
  rintro c pre W' hpre hx hk hm
  exact hx.elim
end
section
open Go.RowKit Go.Maps
noncomputable def dZ(g:Nat)(m:Int):Lit:=(keyOf prog 135 (.agg #[int i64 g,int i64 m])).getD (.bool false)
abbrev Ft(G M C:Nat):List Ht:=aD (Tb 1 G M C) (ak (Tb 1 G M C))
abbrev vT(G M C:Nat):Ht→Nat→Int:=fun h=>stk (Tb 1 G M C) h (Tb 1 G M C).days (Tb 1 G M C).nm
theorem XH(G M C:Nat):((Ft G M C).all fun h=>(List.range 3).all fun g=>(keyOf prog 135 (.agg #[int i64 g,int i64 (vT G M C h g)])).isSome)=true:=zk
theorem eN(G M C:Nat):∀h∈Ft G M C,∀g:Nat,g<3→keyOf prog 135 (.agg #[int i64 g,int i64 (vT G M C h g)])=some (dZ g (vT G M C h g)):=fun h hh g hg=>by
 have h1:=List.all_eq_true.1 (XH G M C) h hh
 have h2:=List.all_eq_true.1 h1 g (List.mem_range.2 hg)
 unfold dZ
 cases hk:keyOf prog 135 (.agg #[int i64 g,int i64 (vT G M C h g)]) with
 | none=>rw[hk] at h2;cases h2
 | some l=>rfl
theorem XP(G M C:Nat):nL dZ (vT G M C) (Ft G M C)=.map [(dZ 0 4,.lit (.int .i64 2)),(dZ 0 5,.lit (.int .i64 2)),(dZ 1 5,.lit (.int .i64 4)),(dZ 2 0,.lit (.int .i64 4))]:=zk
theorem oA:keyOf prog 135 (.agg #[int i64 0,int i64 4])=some (dZ 0 4):=zk
theorem oB:keyOf prog 135 (.agg #[int i64 0,int i64 5])=some (dZ 0 5):=zk
theorem oE:keyOf prog 135 (.agg #[int i64 1,int i64 5])=some (dZ 1 5):=zk
theorem oR:keyOf prog 135 (.agg #[int i64 2,int i64 0])=some (dZ 2 0):=zk
end
section
open Go.RowKit
attribute [local go_sem] Oper.semAt_some
theorem QC(i B:Nat)(hi:i<3)(n:Int)(w:World)(hc:w.cell? ⟨B,i,none⟩=some (int i64 n)):CallsIn FF 0 prog 94 #[int i64 i,.pointer (some ⟨B,0,none⟩)] w fun e w'=>e=.returned (int i64 n)∧w=w':=by
 gi_enter func94,ntmps94
 rcases(show i=0∨i=1∨i=2 by omega) with rfl|rfl|rfl
 all_goals
  gi_wp2
  go_ret
  exact⟨rfl,rfl⟩
theorem UY(B:Nat)(w:World)(h0:w.cell? ⟨B,0,none⟩=some (int i64 2))(h1:w.cell? ⟨B,1,none⟩=some (int i64 4)):CallsIn FF 0 prog 93 #[int i64 4,int i64 2,.func (.func 94) #[] #[.pointer (some ⟨B,0,none⟩)]] w fun e w'=>e=.returned (.tuple #[int i64 0,int i64 2])∧w=w':=by
 have HA:=hid (QC 0 B zD 2 w h0)
 have HB:=hid (QC 1 B zD 4 w h1)
 gi_enter func93,ntmps93
 gi_wp2
 refine wpIn_loop_rounds 3 ?_
 rw[roundsIn_succ]
 gi_wp2_with (gi_at_call 94;refine HA.out.mono ?_;rintro e w3 ⟨rfl,rfl⟩)
 rw[roundsIn_succ]
 gi_wp2_with (gi_at_call 94;refine HB.out.mono ?_;rintro e w3 ⟨rfl,rfl⟩)
 rw[roundsIn_succ]
 gi_wp2
 go_ret2
 exact⟨rfl,rfl⟩
end
end Go.Proofs.YthaelabgfnnebaaGreat
