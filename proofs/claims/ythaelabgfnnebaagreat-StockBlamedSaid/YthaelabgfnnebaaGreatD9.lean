/- HR HR2 HA0 HP -/
import Derived.Test.YthaelabgfnnebaaGreatD8
import Derived.DeepKeys4
set_option maxRecDepth 100000
set_option maxHeartbeats 16000000
set_option linter.unusedVariables false
set_option linter.unusedSectionVars false
open Go.IntKind(i64)
open Go.Lib(hid)
open Go.Proofs.Tryz
open Go.Value(int)
namespace Go.Proofs.YthaelabgfnnebaaGreat
section
open Go Go.RowKit Go.Maps
section
variable{F:Fence}{n:Nat}{P:Program}{ops:Array Oper}{Q:Exit→Act→World→Prop}
theorem vD{id l₀:Nat}{a:Act}{w:World}(L:Nat)(S:World→Prop)(hro:F.round=none)(hm:P.follows .mixedOrders=true)(hd:vK ops=true)
 (h:bg F n P .any ops Q S L ops.size (Array.replicate ops.size false) a w.drew):(Code.region id ops true).wpIn (F.inRound l₀) n P Q a w:=
 wpIn_region_any hm (lD hro hd _ _ _ _ (mR _ _ _ _ h))
end
theorem eQ:laidOutB prog=true:=zk
theorem dV:Keyed prog 135:=Keyed.of_law (deep_law_laid eQ (m:=2) zo (of_decide_eq_true zk) zk zk)
theorem mV(w:World):(zeroValue 3).run prog w=.ok (int i64 0) w:=zk
def oc:DataW Unit→Int
 | .lit (.int _ c)=>c
 | _=>0
def q8(D:DataW Unit)(kl:Lit):DataW Unit:=D.put kl (.lit (.int .i64 (wrap64 (oc (D.atKey kl (.lit (.int .i64 0)))+1))))
theorem Jp(l₀ B M n:Nat)(D:DataW Unit)(g m:Int)(kl:Lit)(hkey:keyOf prog 135 (.agg #[int i64 g,int i64 m])=some kl)(w:World)(hc:w.cell? ⟨B,0,none⟩=some (.map (some M)))(hlt:B<w.heap.size)(kz:B≠M)(hD:w.ownsMap prog 135 (plainElem prog 3) M n D)(hn:n<maxLen)(ds:List Deferred)
 (x0 x1 x2 x4 x7 x8 x9 x10 x11 x12 x13 x14 x15 x16 x17 x18 x19 x20 x21 x22 x23 x24 x25 x26 x27 x28 x29 x30 x31 x32 x33 x34 x35:Value)(Q:Exit→Act→World→Prop)(hQ:∀ (c:List PanicEntry) (a b:Act) (w:World),Q (.panic c) a w→Q (.panic c) b w)
 (h:∀ (y25 y26 y27 y28 y29 y30 y31 y32:Value) (w':World),w'.ownsMap prog 135 (plainElem prog 3) M (n+1) (q8 D kl)→Keeps (fun x=>x=M) w w'→Q .normal {tmps:=#[x0,x1,x2,.pointer (some ⟨B,0,none⟩),x4,int i64 g,int i64 m,x7,x8,x9,x10,x11,x12,x13,x14,x15,x16,x17,x18,x19,x20,x21,x22,x23,x24,y25,y26,y27,y28,y29,y30,y31,y32,x33,x34,x35],defers:=ds } w'):
 (Code.region 8 #[{dst:=some 25,op:=Op.load 131 (Operand.tmp 3),type:=131,pos:=Eo,after:=#[],guard:=none },{dst:=some 26,op:=Op.move (Operand.tmp 5),type:=3,pos:=Eo,after:=#[],guard:=none },{dst:=some 27,op:=Op.move (Operand.tmp 6),type:=3,pos:=Eo,after:=#[],guard:=none },{dst:=some 28,op:=Op.build 135 #[(0,Operand.tmp 26),(1,Operand.tmp 27)],type:=135,pos:=Eo,after:=#[{on:=1,ground:=Ground.data },{on:=2,ground:=Ground.data }],guard:=none },{dst:=some 29,op:=Op.lookup 131 (Operand.tmp 25) (Operand.tmp 28) false,type:=3,pos:=Eo,after:=#[{on:=0,ground:=Ground.data },{on:=3,ground:=Ground.data }],guard:=none },{dst:=some 30,op:=Op.binOp BinOp.add 3 (Operand.tmp 29) (Operand.const (Value.int IntKind.i64 1)) 3,type:=3,pos:=Eo,after:=#[{on:=4,ground:=Ground.data }],guard:=none },{dst:=some 31,op:=Op.mapEntry 131 (Operand.tmp 25) (Operand.tmp 28),type:=0,pos:=Eo,after:=#[{on:=0,ground:=Ground.data },{on:=3,ground:=Ground.data },{on:=0,ground:=Ground.phase },{on:=1,ground:=Ground.phase },{on:=2,ground:=Ground.phase },{on:=3,ground:=Ground.phase },{on:=4,ground:=Ground.textOnly Departure.mapOpAssignEntry },{on:=5,ground:=Ground.textOnly Departure.mapOpAssignEntry }],guard:=none },{dst:=some 32,op:=Op.extract (Operand.tmp 31) 1,type:=3,pos:=Eo,after:=#[{on:=6,ground:=Ground.data }],guard:=none },{dst:=none,op:=Op.entryStore 131 (Operand.tmp 25) (Operand.tmp 32) (Operand.tmp 30),type:=0,pos:=Eo,after:=#[{on:=0,ground:=Ground.data },{on:=7,ground:=Ground.data },{on:=5,ground:=Ground.data },{on:=6,ground:=Ground.chain },{on:=0,ground:=Ground.phase },{on:=1,ground:=Ground.phase },{on:=2,ground:=Ground.phase },{on:=3,ground:=Ground.phase },{on:=4,ground:=Ground.phase },{on:=5,ground:=Ground.phase },{on:=6,ground:=Ground.phase },{on:=7,ground:=Ground.phase }],guard:=none }] true).wpIn (FF.inRound l₀) 0 prog Q {tmps:=#[x0,x1,x2,.pointer (some ⟨B,0,none⟩),x4,int i64 g,int i64 m,x7,x8,x9,x10,x11,x12,x13,x14,x15,x16,x17,x18,x19,x20,x21,x22,x23,x24,x25,x26,x27,x28,x29,x30,x31,x32,x33,x34,x35],defers:=ds } w:=by
 refine vD 8 (fun w'=>w'.cell? ⟨B,0,none⟩=some (.map (some M))) rfl zk zk ?_
 obtain⟨wd,hwd⟩:∃wd,wd=w.drew:=⟨_,rfl⟩
 have hS:wd.cell? ⟨B,0,none⟩=some (.map (some M)):=by rw[hwd];exact hc
 have hown:wd.ownsMap prog 135 (plainElem prog 3) M n D:=by rw[hwd];exact hD.drew
 have hk0:Keeps (fun x=>x=M) w wd:=by rw[hwd];exact Keeps.bJ (fG (Below.refl _ _))
 have q7:B<wd.heap.size:=by rw[hwd];exact hlt
 rw[← hwd]
 clear hwd hc hD hlt
 obtain⟨v,st,w1,hme,hg1,hup⟩:=JC hown dV underlying131 mV hkey
 obtain⟨v',st',w1',re,hl0,hl1⟩:=Ox hown dV underlying131 mV hkey
 rw[hme] at re
 obtain⟨c,hl,hat,-⟩:=hown.lookup_int dV underlying131 underlying3 (mV _) hkey
 rw[hl0] at hl
 injection hl with hv' _
 injection re with hvv Hv
 subst Hv
 subst hv'
 injection hvv with hvv
 injection hvv with hvv
 injection hvv with hvv hst
 injection hst with hst _
 subst hvv
 subst hst
 obtain⟨w2,hu,hs⟩:=hup (int i64 (IntKind.i64.wrap (c+1)))
 obtain⟨w2',hu',hown2,hg2⟩:=hown.update dV underlying131 hn hkey (plainElem_int (P:=prog) (e:=3) underlying3 (show(Lit.int .i64 (IntKind.i64.wrap (c+1))).wf=true by rw[IntWalk.i64_left];exact RowKit.wrap64_wf (c+1)))
 rw[hu] at hu'
 injection hu' with _ Hv
 subst Hv
 have Zw:q8 D kl=D.put kl (.lit (.int .i64 (IntKind.i64.wrap (c+1)))):=by unfold q8;rw[hat,IntWalk.i64_left];rfl
 rw[← Zw] at hown2
 have hS1:w1.cell? ⟨B,0,none⟩=some (.map (some M)):=(World.cell?_of_block (hg1.block B q7 (by simpa using kz))).trans hS
 have HK:Hid (Keeps (fun x=>x=M) w w2):=hid (hk0.trans ⟨hg2.os,hg2.tape,hg2.output,hg2.size,fun b hb hc=>hg2.block b hb (by intro e;cases e;exact hc rfl)⟩)
 have HO:=hid hown2
 have HH:=hid h
 clear hu hup hown2 hg1 hg2 hat hown hk0 hkey h Zw q7
 have HQ:=hid hQ
 clear hQ
 refine Az (i:=0) (some 25) hS ?_ (hQ:=fun _ _ _ h=>HQ.out _ _ _ _ h)
 simp only[Act.put,List.setIfInBounds_toArray,List.set]
 refine Az (i:=1) (some 26) hS ?_ (hQ:=fun _ _ _ h=>HQ.out _ _ _ _ h)
 simp only[Act.put,List.setIfInBounds_toArray,List.set]
 refine Az (i:=2) (some 27) hS ?_ (hQ:=fun _ _ _ h=>HQ.out _ _ _ _ h)
 simp only[Act.put,List.setIfInBounds_toArray,List.set]
 refine Az (i:=3) (some 28) hS ?_ (hQ:=fun _ _ _ h=>HQ.out _ _ _ _ h)
 simp only[Act.put,List.setIfInBounds_toArray,List.set]
 refine aU (i:=4) (i':=6) zk rfl rfl (fun K hK=>?_) (fun K hK=>?_)
 ·skip
  go_simp
  refine hK.out _ _ (fun _=>hS) ?_
  clear hK K
  refine aU (i:=5) (i':=6) zk rfl rfl (fun K hK=>?_) (fun K hK=>?_)
  ·skip
   go_simp
   refine hK.out _ _ (fun _=>hS) ?_
   clear hK K
   refine bf 6 fun K hK=>?_
   go_simp
   refine hK.out _ _ (fun _=>hS1) ?_
   clear hK K
   refine bf 7 fun K hK=>?_
   go_simp
   refine hK.out _ _ (fun _=>hS1) ?_
   clear hK K
   refine bf 8 fun K hK=>?_
   go_simp
   refine hK.out _ _ (fun h=>absurd rfl h) ?_
   clear hK K
   refine aI zk ?_ _
   exact HH.out _ _ _ _ _ _ _ _ _ HO.out HK.out
  ·skip
   go_simp
   refine hK.out _ _ (fun _=>hS1) ?_
   clear hK K
   refine aU (i:=5) (i':=7) zk rfl rfl (fun K hK=>?_) (fun K hK=>?_)
   ·skip
    go_simp
    refine hK.out _ _ (fun _=>hS1) ?_
    clear hK K
    refine bf 7 fun K hK=>?_
    go_simp
    refine hK.out _ _ (fun _=>hS1) ?_
    clear hK K
    refine bf 8 fun K hK=>?_
    go_simp
    refine hK.out _ _ (fun h=>absurd rfl h) ?_
    clear hK K
    refine aI zk ?_ _
    exact HH.out _ _ _ _ _ _ _ _ _ HO.out HK.out
   ·skip
    go_simp
    refine hK.out _ _ (fun _=>hS1) ?_
    clear hK K
    refine bf 5 fun K hK=>?_
    go_simp
    refine hK.out _ _ (fun _=>hS1) ?_
    clear hK K
    refine bf 8 fun K hK=>?_
    go_simp
    refine hK.out _ _ (fun h=>absurd rfl h) ?_
    clear hK K
    refine aI zk ?_ _
    exact HH.out _ _ _ _ _ _ _ _ _ HO.out HK.out
 ·skip
  go_simp
  refine hK.out _ _ (fun _=>hS1) ?_
  clear hK K
  refine aU (i:=4) (i':=7) zk rfl rfl (fun K hK=>?_) (fun K hK=>?_)
  ·skip
   go_simp
   refine hK.out _ _ (fun _=>hS1) ?_
   clear hK K
   refine aU (i:=5) (i':=7) zk rfl rfl (fun K hK=>?_) (fun K hK=>?_)
   ·skip
    go_simp
    refine hK.out _ _ (fun _=>hS1) ?_
    clear hK K
    refine bf 7 fun K hK=>?_
    go_simp
    refine hK.out _ _ (fun _=>hS1) ?_
    clear hK K
    refine bf 8 fun K hK=>?_
    go_simp
    refine hK.out _ _ (fun h=>absurd rfl h) ?_
    clear hK K
    refine aI zk ?_ _
    exact HH.out _ _ _ _ _ _ _ _ _ HO.out HK.out
   ·skip
    go_simp
    refine hK.out _ _ (fun _=>hS1) ?_
    clear hK K
    refine bf 5 fun K hK=>?_
    go_simp
    refine hK.out _ _ (fun _=>hS1) ?_
    clear hK K
    refine bf 8 fun K hK=>?_
    go_simp
    refine hK.out _ _ (fun h=>absurd rfl h) ?_
    clear hK K
    refine aI zk ?_ _
    exact HH.out _ _ _ _ _ _ _ _ _ HO.out HK.out
  ·skip
   go_simp
   refine hK.out _ _ (fun _=>hS1) ?_
   clear hK K
   refine bf 4 fun K hK=>?_
   go_simp
   refine hK.out _ _ (fun _=>hS1) ?_
   clear hK K
   refine bf 5 fun K hK=>?_
   go_simp
   refine hK.out _ _ (fun _=>hS1) ?_
   clear hK K
   refine bf 8 fun K hK=>?_
   go_simp
   refine hK.out _ _ (fun h=>absurd rfl h) ?_
   clear hK K
   refine aI zk ?_ _
   exact HH.out _ _ _ _ _ _ _ _ _ HO.out HK.out
end
section
open Go.RowKit Go.Maps
open Go.Sort (grow)
attribute [local go_sem] Oper.semAt_some
def nQ(kl:Nat→Int→Lit)(v:Ht→Nat→Int)(pre:List Ht):DataW Unit:=pre.foldl (fun D h=>q8 (q8 (q8 D (kl 0 (v h 0))) (kl 1 (v h 1))) (kl 2 (v h 2))) (.map [])
theorem Kw(kl:Nat→Int→Lit)(v:Ht→Nat→Int)(pre:List Ht)(h:Ht):nQ kl v (pre ++ [h])=q8 (q8 (q8 (nQ kl v pre) (kl 0 (v h 0))) (kl 1 (v h 1))) (kl 2 (v h 2)):=by unfold nQ;rw[List.foldl_append];rfl
abbrev yY(W:World)(M n:Nat)(D:DataW Unit):Prop:=W.ownsMap prog 135 (plainElem prog 3) M n D
theorem SY(u v z:Int)(w:World):(Instr.index 85 (.agg #[int i64 u,int i64 v,int i64 z]) (int i64 0)).run prog w=.ok (int i64 u) w∧(Instr.index 85 (.agg #[int i64 u,int i64 v,int i64 z]) (int i64 1)).run prog w=.ok (int i64 v) w∧(Instr.index 85 (.agg #[int i64 u,int i64 v,int i64 z]) (int i64 2)).run prog w=.ok (int i64 z) w:=⟨zk,zk,zk⟩
theorem Xw(b:Bk)(ok:b.Ok)(hl:∀s∈ak b,dN s)(hlen:(aG b (ak b)).length<2 ^ 40)(v:Ht→Nat→Int)(hv:v=fun h=>stk b h b.days b.nm)(kl:Nat→Int→Lit)(hkey:∀h∈aG b (ak b),∀g:Nat,g<3→keyOf prog 135 (.agg #[int i64 g,int i64 (v h g)])=some (kl g (v h g)))(A:Option Addr)(p:Nat)(w:World)(hc:om b A w):
 CallsIn FF 0 prog 92 #[.agg (aA b A (ak b).length p)] w fun e w'=>∃M n,e=.returned (.tuple #[int i64 (aG b (ak b)).length,.map (some M)])∧n≤3 * (aG b (ak b)).length∧yY w' M n (nQ kl v (aG b (ak b)))∧w.heap.size≤M∧Below w.heap.size w w':=by
 have hx:=kH b ok (ak b) hl
 have HH:=hid fun w=>nH (p:=FF.fn) b A (ak b).length p w
 have HIT:=hid fun(C:Nat→Prop) (Bc:Nat) (W:World) (hW:Below w.heap.size w W) (hC:∀x,C x→w.heap.size≤x∧x<W.heap.size) (hb:Whole W Bc 76 (aA b A (ak b).length p)) (cb:¬ C Bc)=>JL (p:=FF.fn) b ok A p (ak b) hl (gF b ok) C w.heap.size Bc W (fun x hx=>(hC x hx).2) hb (hc.row.below hW) (hc.at_.below hW) hW.size cb (fun x hx h=>by have:=(hC _ h).1;omega)
 have HS:=hid fun W (h:Ht) (hh:h∈aG b (ak b)) hA=>show CallsIn FF 0 prog 42 #[b.val,h.val,int i64 b.days] W fun e w'=>e=.returned (lY (v h))∧Below W.heap.size W w' from by rw[hv];exact gD b h b.days W hA ok.moves ok.bM.1.2 (hx h hh)
 have HC:=hid hc
 have HA:=hid hc.at_
 have HK:=hid hkey
 obtain⟨n,hn⟩:∃n,n=(ak b).length:=⟨_,rfl⟩
 obtain⟨xs,hxs⟩:∃xs,xs=aG b (ak b):=⟨_,rfl⟩
 rw[← hn] at HH HIT⊢
 rw[← hxs] at HIT HS HK hlen⊢
 clear hn hxs hc hl ok hx hv hkey
 obtain⟨days,most,gA,ng,gc,g,mA,nm,mc,m,cA,nc,cc,c⟩:=b
 simp only[Bk.val,Bk.cells,aA,lY] at HH HIT HS⊢
 refine callsIn_of_wp_marks func92 rfl zs ?_ rfl
 simp only[ntmps92,List.size_toArray,List.length_cons,List.length_nil,Nat.reduceAdd,Nat.reduceSub,Array.replicate_succ,Array.replicate_zero,List.push_toArray,List.append_toArray,List.nil_append,List.cons_append]
 have hmm:=@run_makeMap prog
 obtain⟨W,hW⟩:∃W,W=(((w.alloc (.cells #[int i64 days,int i64 most,.slice gA ng gc,.slice mA nm mc,.slice cA nc cc,.slice A n p] 76)).alloc (.cells #[int i64 0] 3)).alloc (.cells #[.map (some (w.heap.size+1+1+1))] 131)).alloc (.map #[] 0):=⟨_,rfl⟩
 have B1:Hid (Below w.heap.size w W):=hid (by rw[hW];exact bw)
 have C1:Hid (Whole W w.heap.size 76 #[int i64 days,int i64 most,.slice gA ng gc,.slice mA nm mc,.slice cA nc cc,.slice A n p]):=hid (by rw[hW];exact(((Whole.new w _ _).alloc _).alloc _).alloc _)
 have N1:Hid (Whole W (w.heap.size+1) 3 #[int i64 0]):=hid (by rw[hW];exact((aP zs).alloc _).alloc _)
 have M1:Hid (Whole W (w.heap.size+1+1) 131 #[.map (some (w.heap.size+1+1+1))]):=hid (by rw[hW];exact(aP zs).alloc _)
 have O1:Hid (yY W (w.heap.size+1+1+1) 0 (nQ kl v [])):=hid (by
  have:=World.ownsMap_made (H:=Unit) (((w.alloc (.cells #[int i64 days,int i64 most,.slice gA ng gc,.slice mA nm mc,.slice cA nc cc,.slice A n p] 76)).alloc (.cells #[int i64 0] 3)).alloc (.cells #[.map (some (w.heap.size+1+1+1))] 131)) prog 135 (plainElem prog 3)
  simp only[World.size_alloc] at this;rw[hW];exact this)
 have hsW:W.heap.size=w.heap.size+4:=by rw[hW];simp
 have HW:=hid hW
 clear hW
 gi_wp2_with (gi_at_call 40;rw[← HW.out];refine(HH.out W).mono ?_;rintro e w4 ⟨rfl,hw4,hb4,hs4⟩)
 clear hmm HW
 have B4:Hid (Below w.heap.size w w4):=hid (Below.next B1.out hb4)
 have C4:=hid (C1.out.below hb4 C1.out.lt)
 have N4:=hid (N1.out.below hb4 N1.out.lt)
 have M4:=hid (M1.out.below hb4 M1.out.lt)
 have O4:Hid (yY w4 (w.heap.size+1+1+1) 0 (nQ kl v [])):=hid (bS O1.out (hb4.block _ zo))
 rw[hsW] at hw4
 have H4:=hid hw4
 clear hw4 hb4 B1 C1 N1 M1 O1
 obtain⟨CC,RV⟩:∃CC:Nat→Prop,CC=fun x=>x=w.heap.size+1∨x=w.heap.size+1+1+1:=⟨_,rfl⟩
 have mY:∀x,CC x↔x=w.heap.size+1∨x=w.heap.size+1+1+1:=fun x=>by rw[RV]
 clear RV
 have eg:=enters_of func76 zk rfl
 have Qg:=hid eg
 clear eg
 refine iJ (C:=CC) rfl rfl (gf:=76) (lb:=#[.pointer (some ⟨w.heap.size+4,0,none⟩)]) rfl zs Qg.out (encs:=fun h:Ht=>#[h.val]) (xs:=xs)
  (fun x hx=>by have:=(mY x).1 hx;omega) ?hseq (fun _=>rfl) (fun pre W'=>Hid (Whole W' (w.heap.size+1) 3 #[int i64 pre.length]∧yY W' (w.heap.size+1+1+1) (3 * pre.length) (nQ kl v pre))) (fun c pre W'=>False)
  (fun pre A B h hb=>hid ⟨h.out.1.below hb zo,bS h.out.2 (hb.block _ zo)⟩) (fun c pre A B h hb=>h.elim) (hid ⟨N4.out,O4.out⟩) ?gB ?hdone ?hstop
 case hseq=>
  exact fun W2 hb2 hs2=>HIT.out _ _ W2 (Below.next B4.out hb2) (fun x hx=>by rw[mY] at hx;omega) (H4.out.below hb2 H4.out.lt) (fun hx=>by rw[mY] at hx;omega)
 case gB=>
  intro l' pre h A0 hl' hpre hj hk hsz hrec
  have hsn:=Kw kl v pre h
  have hpl:(pre ++ [h]).length=pre.length+1:=zs
  have Ha:=iC hpre
  rw[hpl,hsn]
  have K0:keyOf prog 135 (.agg #[int i64 0,int i64 (v h 0)])=some (kl 0 (v h 0)):=HK.out h (fH hpre) 0 zD
  have K1:keyOf prog 135 (.agg #[int i64 1,int i64 (v h 1)])=some (kl 1 (v h 1)):=HK.out h (fH hpre) 1 zD
  have K2:keyOf prog 135 (.agg #[int i64 2,int i64 (v h 2)])=some (kl 2 (v h 2)):=HK.out h (fH hpre) 2 zD
  have IB:=hid fun W=>HS.out W h (fH hpre)
  obtain⟨v0,hv0⟩:∃x,x=v h 0:=⟨_,rfl⟩
  obtain⟨v1,hv1⟩:∃x,x=v h 1:=⟨_,rfl⟩
  obtain⟨v2,hv2⟩:∃x,x=v h 2:=⟨_,rfl⟩
  rw[← hv0] at K0 IB⊢
  rw[← hv1] at K1 IB⊢
  rw[← hv2] at K2 IB⊢
  obtain⟨k0,hk0⟩:∃x,x=kl 0 v0:=⟨_,rfl⟩
  obtain⟨k1,hk1⟩:∃x,x=kl 1 v1:=⟨_,rfl⟩
  obtain⟨k2,hk2⟩:∃x,x=kl 2 v2:=⟨_,rfl⟩
  rw[← hk0] at K0⊢
  rw[← hk1] at K1⊢
  rw[← hk2] at K2⊢
  have Na:=hid K0
  have HK1:=hid K1
  have HK2:=hid K2
  obtain⟨D,hD⟩:∃D,D=nQ kl v pre:=⟨_,rfl⟩
  rw[← hD] at hj⊢
  clear hsn hpl hv0 hv1 hv2 hk0 hk1 hk2 hD K0 K1 K2
  obtain⟨hf,hmm,uz⟩:=h
  simp only[Ht.val,Ht.cells] at IB⊢
  gi_wp2
  refine⟨bw,fun W2 hS=>?_⟩
  have ow:Below (w.heap.size+5) A0 W2:=((Below.refl _ A0).alloc zo _).trans (hS.below zo)
  have hA2:A0.heap.size+1≤W2.heap.size:=by have:=hS.size;simp at this;exact Nat.le_of_eq this.symm
  have N2:=hid (hj.out.1.below ow zo)
  have O2:Hid (yY W2 (w.heap.size+1+1+1) (3 * pre.length) D):=hid (bS hj.out.2 (ow.block _ zo))
  have C2:Hid (Whole W2 w.heap.size 76 #[int i64 days,int i64 most,.slice gA ng gc,.slice mA nm mc,.slice cA nc cc,.slice A n p]):=hid ((C4.out.of (hk.block _ zo (fun hx=>by rw[mY] at hx;omega))).below ow zo)
  have M2:Hid (Whole W2 (w.heap.size+1+1) 131 #[.map (some (w.heap.size+1+1+1))]):=hid ((M4.out.of (hk.block _ zo (fun hx=>by rw[mY] at hx;omega))).below ow zo)
  have X2:Hid (Whole W2 A0.heap.size 88 (⟨hf,hmm,uz⟩:Ht).cells):=hid ((Whole.new A0 _ _).of (hS.block _ zo))
  have HB2:Hid (Below w.heap.size w W2):=hid ((B4.out.trans (hk.below (n:=w.heap.size) (fun b hb hc=>by have:=(mY b).1 hc;omega) zo)).trans (ow.mono zo))
  have e1:wrap64 ((pre.length:Int)+1)=(pre.length:Int)+1:=IntWalk.wrap64_in _ (by have:=iC hpre;omega)
  have c6:W2.cell? ⟨w.heap.size+1,0,none⟩=some (int i64 pre.length):=N2.out.cell 0
  have f6:=N2.out.thaw
  obtain⟨W3,hW3⟩:∃W3,W3=W2.setCell ⟨w.heap.size+1,0,none⟩ (int i64 (pre.length+1)):=⟨_,rfl⟩
  have N3:Hid (Whole W3 (w.heap.size+1) 3 #[int i64 (pre.length+1)]):=hid (by rw[hW3];exact N2.out.set 0 (int i64 (pre.length+1)))
  have C3:Hid (Whole W3 w.heap.size 76 #[int i64 days,int i64 most,.slice gA ng gc,.slice mA nm mc,.slice cA nc cc,.slice A n p]):=hid (by rw[hW3];exact C2.out.other zF _)
  have M3:Hid (Whole W3 (w.heap.size+1+1) 131 #[.map (some (w.heap.size+1+1+1))]):=hid (by rw[hW3];exact M2.out.other zF _)
  have X3:Hid (Whole W3 A0.heap.size 88 (⟨hf,hmm,uz⟩:Ht).cells):=hid (by rw[hW3];exact X2.out.other zF _)
  have O3:Hid (yY W3 (w.heap.size+1+1+1) (3 * pre.length) D):=hid (by rw[hW3];exact bS O2.out (Below.heap_setCell _ _ _ _ zF))
  have K3:Hid (Keeps CC W2 W3):=hid (by rw[hW3];exact Keeps.set (p:=⟨w.heap.size+1,0,none⟩) (Keeps.refl _ _) ((mY _).2 (.inl rfl)) _)
  have HB3:Hid (Below w.heap.size w W3):=hid (by rw[hW3];exact HB2.out.setCell zs _)
  have hs3:W3.heap.size=W2.heap.size:=by rw[hW3];simp[World.setCell]
  have x0:W3.cell? ⟨A0.heap.size,0,none⟩=some (int i64 (hf 0)):=X3.out.cell 0
  have x1:W3.cell? ⟨A0.heap.size,1,none⟩=some (int i64 (hf 1)):=X3.out.cell 1
  have x2:W3.cell? ⟨A0.heap.size,2,none⟩=some (int i64 (hf 2)):=X3.out.cell 2
  have x3:W3.cell? ⟨A0.heap.size,3,none⟩=some (int i64 (hmm 0)):=X3.out.cell 3
  have x4:W3.cell? ⟨A0.heap.size,4,none⟩=some (int i64 (hmm 1)):=X3.out.cell 4
  have x5:W3.cell? ⟨A0.heap.size,5,none⟩=some (int i64 (hmm 2)):=X3.out.cell 5
  have x6:W3.cell? ⟨A0.heap.size,6,none⟩=some (int i64 (hmm 3)):=X3.out.cell 6
  have x7:W3.cell? ⟨A0.heap.size,7,none⟩=some (int i64 (hmm 4)):=X3.out.cell 7
  have x8:W3.cell? ⟨A0.heap.size,8,none⟩=some (int i64 (hmm 5)):=X3.out.cell 8
  have x9:W3.cell? ⟨A0.heap.size,9,none⟩=some (int i64 (uz)):=X3.out.cell 9
  have q0:W3.cell? ⟨w.heap.size,0,none⟩=some (int i64 days):=C3.out.cell 0
  have q1:W3.cell? ⟨w.heap.size,1,none⟩=some (int i64 most):=C3.out.cell 1
  have q2:W3.cell? ⟨w.heap.size,2,none⟩=some (.slice gA ng gc):=C3.out.cell 2
  have q3:W3.cell? ⟨w.heap.size,3,none⟩=some (.slice mA nm mc):=C3.out.cell 3
  have q4:W3.cell? ⟨w.heap.size,4,none⟩=some (.slice cA nc cc):=C3.out.cell 4
  rw[hW3] at q0 q1 q2 q3 q4 x0 x1 x2 x3 x4 x5 x6 x7 x8 x9
  have HW3:=hid hW3
  clear hW3 X2 O2 C2 M2 N2 ow
  have HD:=fun u v z w=>(SY u v z w).1
  have H5:=fun u v z w=>(SY u v z w).2.1
  have H':=fun u v z w=>(SY u v z w).2.2
  gi_wp2_with (gi_at_call 42;rw[← HW3.out];refine(IB.out W3 (HA.out.up HB3.out)).mono ?_;rintro e W5 ⟨rfl,hb5⟩)
  have hlt3:=N3.out.lt
  have N5:=hid (N3.out.below hb5 N3.out.lt)
  have M5:=hid (M3.out.below hb5 M3.out.lt)
  have O5:Hid (yY W5 (w.heap.size+1+1+1) (3 * pre.length) D):=hid (bS O3.out (hb5.block _ zo))
  have K5:=hid (K3.out.trans (Keeps.bJ hb5))
  have hs5:W2.heap.size≤W5.heap.size:=by have:=hb5.size;omega
  clear N3 M3 O3 K3 C3 X3 hb5 q0 q1 q2 q3 q4 x0 x1 x2 x3 x4 x5 x6 x7 x8 x9
  refine wpIn_loop_rounds 4 ?_
  rw[roundsIn_succ]
  gi_wp2
  refine Jp _ _ _ _ _ _ _ _ Na.out _ (M5.out.cell 0) M5.out.lt zo O5.out zU _ _ _ _ _ _ _ _ _ _ _ _ _ _ _ _ _ _ _ _ _ _ _ _ _ _ _ _ _ _ _ _ _ _ _ ?hQ ?_
  case hQ=>exact fun _ _ _ _ h=>h
  intro y25 y26 y27 y28 y29 y30 y31 y32 W6 o6 xd
  have O6:=hid o6
  have N6:Hid (Whole W6 (w.heap.size+1) 3 #[int i64 (pre.length+1)]):=hid (N5.out.of (xd.block _ (by have:=N5.out.lt;omega) (by show ¬ (w.heap.size+1=w.heap.size+1+1+1);omega)))
  have M6:Hid (Whole W6 (w.heap.size+1+1) 131 #[.map (some (w.heap.size+1+1+1))]):=hid (M5.out.of (xd.block _ M5.out.lt (by show ¬ (w.heap.size+1+1=w.heap.size+1+1+1);omega)))
  have K6:Hid (Keeps CC W2 W6):=hid (K5.out.trans (xd.more (fun x _ hx=>(mY x).2 (.inr hx))))
  clear o6 xd
  simp only[Exit.inBlock,Exit.then]
  go_at_K
  gi_wp2
  rw[roundsIn_succ]
  gi_wp2
  refine Jp _ _ _ _ _ _ _ _ HK1.out _ (M6.out.cell 0) M6.out.lt zo O6.out zU _ _ _ _ _ _ _ _ _ _ _ _ _ _ _ _ _ _ _ _ _ _ _ _ _ _ _ _ _ _ _ _ _ _ _ ?hQ ?_
  case hQ=>exact fun _ _ _ _ h=>h
  intro y25 y26 y27 y28 y29 y30 y31 y32 W7 o7 xe
  have O7:=hid o7
  have N7:Hid (Whole W7 (w.heap.size+1) 3 #[int i64 (pre.length+1)]):=hid (N6.out.of (xe.block _ (by have:=N6.out.lt;omega) (by show ¬ (w.heap.size+1=w.heap.size+1+1+1);omega)))
  have M7:Hid (Whole W7 (w.heap.size+1+1) 131 #[.map (some (w.heap.size+1+1+1))]):=hid (M6.out.of (xe.block _ M6.out.lt (by show ¬ (w.heap.size+1+1=w.heap.size+1+1+1);omega)))
  have K7:Hid (Keeps CC W2 W7):=hid (K6.out.trans (xe.more (fun x _ hx=>(mY x).2 (.inr hx))))
  clear o7 xe
  simp only[Exit.inBlock,Exit.then]
  go_at_K
  gi_wp2
  rw[roundsIn_succ]
  gi_wp2
  refine Jp _ _ _ _ _ _ _ _ HK2.out _ (M7.out.cell 0) M7.out.lt zo O7.out zU _ _ _ _ _ _ _ _ _ _ _ _ _ _ _ _ _ _ _ _ _ _ _ _ _ _ _ _ _ _ _ _ _ _ _ ?hQ ?_
  case hQ=>exact fun _ _ _ _ h=>h
  intro y25 y26 y27 y28 y29 y30 y31 y32 W8 o8 xh
  have O8:=hid o8
  have N8:Hid (Whole W8 (w.heap.size+1) 3 #[int i64 (pre.length+1)]):=hid (N7.out.of (xh.block _ (by have:=N7.out.lt;omega) (by show ¬ (w.heap.size+1=w.heap.size+1+1+1);omega)))
  have M8:Hid (Whole W8 (w.heap.size+1+1) 131 #[.map (some (w.heap.size+1+1+1))]):=hid (M7.out.of (xh.block _ M7.out.lt (by show ¬ (w.heap.size+1+1=w.heap.size+1+1+1);omega)))
  have K8:Hid (Keeps CC W2 W8):=hid (K7.out.trans (xh.more (fun x _ hx=>(mY x).2 (.inr hx))))
  clear o8 xh
  simp only[Exit.inBlock,Exit.then]
  go_at_K
  gi_wp2
  rw[roundsIn_succ]
  gi_wp2
  exact⟨K8.out,hid ⟨by simpa using N8.out,by have:=O8.out;rwa[show 3 * pre.length+1+1+1=3 * (pre.length+1) by omega] at this⟩⟩
 case hdone=>
  intro W' hj hk hm
  have hlt1:=hj.out.1.lt
  have N5:=hid hj.out.1
  have M5:Hid (Whole W' (w.heap.size+1+1) 131 #[.map (some (w.heap.size+1+1+1))]):=hid (M4.out.of (hk.block _ zo (fun hx=>by rw[mY] at hx;omega)))
  have O5:=hid hj.out.2
  have EW:Hid (Below w.heap.size w W'):=hid (B4.out.trans (hk.below (n:=w.heap.size) (fun b hb hc=>by have:=(mY b).1 hc;omega) zo))
  have hms:Marks w4.heap.size (w4.heap.size+1) [{target:=.collected w4.heap.size,args:=#[] }] W':=⟨_,rfl,Nat.le_refl _,Nat.lt_succ_self _,hm,trivial⟩
  have Vs:=hid hms
  have hm1:w4.heap.size<W'.heap.size:=(Array.getElem?_eq_some_iff.1 hm).1
  clear hj hms hk hm hlen
  simp only[Exit.inBlock,Exit.then]
  go_at_K
  gi_wp2
  refine iP 3 (fun w'=>w'.cell? ⟨w.heap.size+1,0,none⟩=some (int i64 xs.length)∧w'.cell? ⟨w.heap.size+1+1,0,none⟩=some (.map (some (w.heap.size+1+1+1)))) zk ?_
  have N6:Hid (Whole W'.drew (w.heap.size+1) 3 #[int i64 xs.length]):=hid N5.out
  have M6:Hid (Whole W'.drew (w.heap.size+1+1) 131 #[.map (some (w.heap.size+1+1+1))]):=hid M5.out
  have O6:Hid (yY W'.drew (w.heap.size+1+1+1) (3 * xs.length) (nQ kl v xs)):=hid O5.out.drew
  have l8:=hid (fG EW.out)
  have mw:Hid (Marks w4.heap.size (w4.heap.size+1) [{target:=.collected w4.heap.size,args:=#[] }] W'.drew):=hid Vs.out
  have GS:w4.heap.size<W'.drew.heap.size:=hm1
  generalize W'.drew=W9 at N6 M6 O6 l8 mw GS⊢
  have hS:W9.cell? ⟨w.heap.size+1,0,none⟩=some (int i64 xs.length)∧W9.cell? ⟨w.heap.size+1+1,0,none⟩=some (.map (some (w.heap.size+1+1+1))):=⟨N6.out.cell 0,M6.out.cell 0⟩
  have ax:Hid (Marks (w.heap.size+4+1) (w.heap.size+4+1+1) [{target:=.collected (w.heap.size+4+1),args:=#[] }] W9):=hid (by have:=mw.out;rwa[show w4.heap.size=w.heap.size+4+1 by omega] at this)
  have c1:=hS.1
  have c2:=hS.2
  have f1:=N6.out.thaw
  have N7:=hid (N6.out.set 0 (int i64 xs.length))
  have M7:=hid (M6.out.other (p:=⟨w.heap.size+1,0,none⟩) zs (int i64 xs.length))
  have N8:=hid (N7.out.other (p:=⟨w.heap.size+1+1,0,none⟩) zs (.map (some (w.heap.size+1+1+1))))
  have M8:=hid (M7.out.set 0 (.map (some (w.heap.size+1+1+1))))
  have ju:=hid ((l8.out.setCell (p:=⟨w.heap.size+1,0,none⟩) (by show w.heap.size≤w.heap.size+1;omega) (int i64 xs.length)).setCell (p:=⟨w.heap.size+1+1,0,none⟩) (by show w.heap.size≤w.heap.size+1+1;omega) (.map (some (w.heap.size+1+1+1))))
  have O8:Hid (yY ((W9.setCell ⟨w.heap.size+1,0,none⟩ (int i64 xs.length)).setCell ⟨w.heap.size+1+1,0,none⟩ (.map (some (w.heap.size+1+1+1)))) (w.heap.size+1+1+1) (3 * xs.length) (nQ kl v xs)):=hid (bS (bS O6.out (Below.heap_setCell _ _ _ _ zF)) (Below.heap_setCell _ _ _ _ zF))
  have pc:(W9.setCell ⟨w.heap.size+1,0,none⟩ (int i64 xs.length)).cell? ⟨w.heap.size+1,0,none⟩=some (int i64 xs.length)∧(W9.setCell ⟨w.heap.size+1,0,none⟩ (int i64 xs.length)).cell? ⟨w.heap.size+1+1,0,none⟩=some (.map (some (w.heap.size+1+1+1))):=⟨N7.out.cell 0,M7.out.cell 0⟩
  have d2:=pc.2
  have f2:=M7.out.thaw
  refine aU (i:=0) (i':=1) zk rfl rfl (fun K hK=>?_) (fun K hK=>?_)
  ·skip
   go_simp
   refine hK.out _ _ (fun _=>hS) ?_
   clear hK K
   refine aU (i:=1) (i':=2) zk rfl rfl (fun K hK=>?_) (fun K hK=>?_)
   ·skip
    go_simp
    refine hK.out _ _ (fun _=>hS) ?_
    clear hK K
    refine bf 2 fun K hK=>?_
    go_simp
    refine hK.out _ _ (fun _=>pc) ?_
    clear hK K
    refine bf 3 fun K hK=>?_
    go_simp
    refine hK.out _ _ (fun h=>absurd rfl h) ?_
    clear hK K
    refine aI zk ?_ _
    clear c1 c2 d2 f1 f2
    gi_wp2
    refine dI (lo:=w.heap.size+4+1) (hi:=w.heap.size+4+1+1) (ax.out.of fun r h1 h2=>((Below.heap_setCell _ ⟨w.heap.size+1+1,0,none⟩ _ _ (by show r≠w.heap.size+1+1;omega)).trans (Below.heap_setCell _ ⟨w.heap.size+1,0,none⟩ _ _ (by show r≠w.heap.size+1;omega)))) (fun B hB=>⟨.tuple #[int i64 xs.length,.map (some (w.heap.size+1+1+1))],?_,w.heap.size+1+1+1,3 * xs.length,rfl,Nat.le_refl _,?_,zo,ju.out.trans (hB.below (n:=w.heap.size) (fun b hb hc=>zo) ju.out.size)⟩)
    ·have u1:=(hB.cell (p:=⟨w.heap.size+1,0,none⟩) N8.out.lt (fun hx=>by have h0:w.heap.size+4+1≤w.heap.size+1:=hx.1;omega)).trans (N8.out.cell 0)
     have u2:=(hB.cell (p:=⟨w.heap.size+1+1,0,none⟩) M8.out.lt (fun hx=>by have h0:w.heap.size+4+1≤w.heap.size+1+1:=hx.1;omega)).trans (M8.out.cell 0)
     simp[results,results92,go_sem,u1,u2]
    ·exact bS O8.out (hB.block _ O8.out.lt (fun hx=>by have h0:w.heap.size+4+1≤w.heap.size+1+1+1:=hx.1;omega))
   ·skip
    go_simp
    refine hK.out _ _ (fun _=>pc) ?_
    clear hK K
    refine bf 1 fun K hK=>?_
    go_simp
    refine hK.out _ _ (fun _=>pc) ?_
    clear hK K
    refine bf 3 fun K hK=>?_
    go_simp
    refine hK.out _ _ (fun h=>absurd rfl h) ?_
    clear hK K
    refine aI zk ?_ _
    clear c1 c2 d2 f1 f2
    gi_wp2
    refine dI (lo:=w.heap.size+4+1) (hi:=w.heap.size+4+1+1) (ax.out.of fun r h1 h2=>((Below.heap_setCell _ ⟨w.heap.size+1+1,0,none⟩ _ _ (by show r≠w.heap.size+1+1;omega)).trans (Below.heap_setCell _ ⟨w.heap.size+1,0,none⟩ _ _ (by show r≠w.heap.size+1;omega)))) (fun B hB=>⟨.tuple #[int i64 xs.length,.map (some (w.heap.size+1+1+1))],?_,w.heap.size+1+1+1,3 * xs.length,rfl,Nat.le_refl _,?_,zo,ju.out.trans (hB.below (n:=w.heap.size) (fun b hb hc=>zo) ju.out.size)⟩)
    ·have u1:=(hB.cell (p:=⟨w.heap.size+1,0,none⟩) N8.out.lt (fun hx=>by have h0:w.heap.size+4+1≤w.heap.size+1:=hx.1;omega)).trans (N8.out.cell 0)
     have u2:=(hB.cell (p:=⟨w.heap.size+1+1,0,none⟩) M8.out.lt (fun hx=>by have h0:w.heap.size+4+1≤w.heap.size+1+1:=hx.1;omega)).trans (M8.out.cell 0)
     simp[results,results92,go_sem,u1,u2]
    ·exact bS O8.out (hB.block _ O8.out.lt (fun hx=>by have h0:w.heap.size+4+1≤w.heap.size+1+1+1:=hx.1;omega))
  ·skip
   go_simp
   refine hK.out _ _ (fun _=>hS) ?_
   clear hK K
   refine bf 0 fun K hK=>?_
   go_simp
   refine hK.out _ _ (fun _=>hS) ?_
   clear hK K
   refine bf 2 fun K hK=>?_
   go_simp
   refine hK.out _ _ (fun _=>pc) ?_
   clear hK K
   refine bf 3 fun K hK=>?_
   go_simp
   refine hK.out _ _ (fun h=>absurd rfl h) ?_
   clear hK K
   refine aI zk ?_ _
   clear c1 c2 d2 f1 f2
   gi_wp2
   refine dI (lo:=w.heap.size+4+1) (hi:=w.heap.size+4+1+1) (ax.out.of fun r h1 h2=>((Below.heap_setCell _ ⟨w.heap.size+1+1,0,none⟩ _ _ (by show r≠w.heap.size+1+1;omega)).trans (Below.heap_setCell _ ⟨w.heap.size+1,0,none⟩ _ _ (by show r≠w.heap.size+1;omega)))) (fun B hB=>⟨.tuple #[int i64 xs.length,.map (some (w.heap.size+1+1+1))],?_,w.heap.size+1+1+1,3 * xs.length,rfl,Nat.le_refl _,?_,zo,ju.out.trans (hB.below (n:=w.heap.size) (fun b hb hc=>zo) ju.out.size)⟩)
   ·have u1:=(hB.cell (p:=⟨w.heap.size+1,0,none⟩) N8.out.lt (fun hx=>by have h0:w.heap.size+4+1≤w.heap.size+1:=hx.1;omega)).trans (N8.out.cell 0)
    have u2:=(hB.cell (p:=⟨w.heap.size+1+1,0,none⟩) M8.out.lt (fun hx=>by have h0:w.heap.size+4+1≤w.heap.size+1+1:=hx.1;omega)).trans (M8.out.cell 0)
    simp[results,results92,go_sem,u1,u2]
   ·exact bS O8.out (hB.block _ O8.out.lt (fun hx=>by have h0:w.heap.size+4+1≤w.heap.size+1+1+1:=hx.1;omega))
 case hstop=>
  rintro c pre W' hpre hx hk hm
  exact hx.elim
end
section
open Go.RowKit Go.Maps
noncomputable def eB(g:Nat)(m:Int):Lit:=(keyOf prog 135 (.agg #[int i64 g,int i64 m])).getD (.bool false)
abbrev L5(G M C:Nat):List Ht:=aG (Tb 1 G M C) (ak (Tb 1 G M C))
abbrev vT(G M C:Nat):Ht→Nat→Int:=fun h=>stk (Tb 1 G M C) h (Tb 1 G M C).days (Tb 1 G M C).nm
theorem YA(G M C:Nat):((L5 G M C).all fun h=>(List.range 3).all fun g=>(keyOf prog 135 (.agg #[int i64 g,int i64 (vT G M C h g)])).isSome)=true:=zk
theorem gO(G M C:Nat):∀h∈L5 G M C,∀g:Nat,g<3→keyOf prog 135 (.agg #[int i64 g,int i64 (vT G M C h g)])=some (eB g (vT G M C h g)):=fun h hh g hg=>by
 have h1:=List.all_eq_true.1 (YA G M C) h hh
 have h2:=List.all_eq_true.1 h1 g (List.mem_range.2 hg)
 unfold eB
 cases hk:keyOf prog 135 (.agg #[int i64 g,int i64 (vT G M C h g)]) with
 | none=>rw[hk] at h2;cases h2
 | some l=>rfl
theorem YH(G M C:Nat):nQ eB (vT G M C) (L5 G M C)=.map [(eB 0 4,.lit (.int .i64 2)),(eB 0 5,.lit (.int .i64 2)),(eB 1 5,.lit (.int .i64 4)),(eB 2 0,.lit (.int .i64 4))]:=zk
theorem ry:keyOf prog 135 (.agg #[int i64 0,int i64 4])=some (eB 0 4):=zk
theorem rB:keyOf prog 135 (.agg #[int i64 0,int i64 5])=some (eB 0 5):=zk
theorem rK:keyOf prog 135 (.agg #[int i64 1,int i64 5])=some (eB 1 5):=zk
theorem rL:keyOf prog 135 (.agg #[int i64 2,int i64 0])=some (eB 2 0):=zk
end
section
open Go.RowKit
attribute [local go_sem] Oper.semAt_some
theorem Rj(i B:Nat)(hi:i<3)(n:Int)(w:World)(hc:w.cell? ⟨B,i,none⟩=some (int i64 n)):CallsIn FF 0 prog 94 #[int i64 i,.pointer (some ⟨B,0,none⟩)] w fun e w'=>e=.returned (int i64 n)∧w=w':=by
 gi_enter func94,ntmps94
 rcases(show i=0∨i=1∨i=2 by omega) with rfl|rfl|rfl
 all_goals
  gi_wp2
  go_ret
  exact⟨rfl,rfl⟩
theorem VN(B:Nat)(w:World)(h0:w.cell? ⟨B,0,none⟩=some (int i64 2))(h1:w.cell? ⟨B,1,none⟩=some (int i64 4)):CallsIn FF 0 prog 93 #[int i64 4,int i64 2,.func (.func 94) #[] #[.pointer (some ⟨B,0,none⟩)]] w fun e w'=>e=.returned (.tuple #[int i64 0,int i64 2])∧w=w':=by
 have HA:=hid (Rj 0 B zD 2 w h0)
 have HB:=hid (Rj 1 B zD 4 w h1)
 gi_enter func93,ntmps93
 gi_wp2
 refine wpIn_loop_rounds 3 ?_
 rw[roundsIn_succ]
 gi_wp2_with (gi_at_call 94;refine HA.out.mono ?_;rintro e w3 ⟨rfl,rfl⟩)
 rw[roundsIn_succ]
 gi_wp2_with (gi_at_call 94;refine HB.out.mono ?_;rintro e w3 ⟨rfl,rfl⟩)
 rw[roundsIn_succ]
 gi_wp2
 go_ret2
 exact⟨rfl,rfl⟩
end
end Go.Proofs.YthaelabgfnnebaaGreat
