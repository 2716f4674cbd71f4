/- P16 P17 P22 P21 -/
import Derived.Test.YthaelabgfnnebaaGreatE0
import Derived.Laws.CopyOwn
set_option maxRecDepth 100000
set_option maxHeartbeats 16000000
set_option linter.unusedVariables false
set_option linter.unusedSectionVars false
open Go.IntKind(i64)
open Go.Lib(hid)
open Go.Proofs.Tryz
open Go.Value(int)
namespace Go.Proofs.YthaelabgfnnebaaGreat
section
open Go.RowKit Go.Sort
section
variable{F:Fence}{n:Nat}{P:Program}
theorem qb{ops:Array Oper}{rest:List Oper}{o:Oper}{a:Act}{w:World}{Q:Exit→Act→World→Prop}(hro:F.round=none)(hgd:o.guard=none)(d s:Operand)(dT sT:TypeId)
 (ho:o.op=.call {callee:=.builtin .copy,args:=#[d,s],argTypes:=#[dT,sT] })(elem:TypeId)(hu:P.underlying dT=some (.slice elem))(hsz:(P.info? elem).map (·.size)=some 1)
 (dp sp:Option Addr)(dLen dCap sLen sCap:Nat)(hd:a.eval d=.slice dp dLen dCap)(hs:a.eval s=.slice sp sLen sCap)
 (g off:Nat)(cur:List Value)(t:TypeId)(hg:w.heap[g]? =some (.cells cur.toArray t (0,0)))(cs:List Value)(hn:cs.length=Nat.min sLen dLen)
 (hpos:0<cs.length→dp=some ⟨g,off,none⟩∧∃ad,sp=some ad∧∀j v,cs[j]? =some v→w.cell? (ad.add j)=some v)
 (hfit:off+cs.length≤cur.length)(h1:∀v∈cs,v.oneCell'=true)
 (h:∀w',w'.heap[g]? =some (.cells (splice cur off cs).toArray t (0,0))→Below g w w'→(∀b,b≠g→w'.heap[b]? =w.heap[b]?)→w'.heap.size=w.heap.size→wpListIn F n P ops Q rest (a.put o.dst (goInt cs.length)) w'):
 wpListIn F n P ops Q (o :: rest) a w:=by
 refine wpListIn_plain hgd fun K hK=>?_
 refine⟨fun f hf=>(by rw[oV ho] at hf;cases hf),?_⟩
 rw[hro,Oper.semAt_none]
 by_cases h0:cs.length=0
 ·obtain rfl:cs=[]:=List.eq_nil_of_length_eq_zero h0
  have hrun:=run_copy_none (P:=P) w dT sT o.type elem dp sp dLen dCap sLen sCap hu hsz (by simpa using hn.symm)
  have:=hK _ _ (h w (show _=_ by simpa [splice] using hg) (Below.refl _ _) (fun _ _=>rfl) rfl)
  simp[execOp,ho,resolve,invoke,builtin,hd,hs,hrun,Result.andThen,Oper.uponIn]
  exact this
 ·obtain⟨rfl,ad,rfl,hsrc⟩:=hpos zo
  have hrun:=run_copy_row (P:=P) w dT sT o.type elem g off dLen dCap ad sLen sCap cur.toArray t cs hu hsz hg hn hsrc (by simpa using hfit) h1
  have:=hK _ _ (h _ (show _=_ by simpa [splice] using setRow_heap w g _ _ t _ hg) (below_setRow (Below.refl _ _) (Nat.le_refl _) _) (fun b hb=>setRow_other w g b _ hb) (by simp[World.setRow]))
  simp[execOp,ho,resolve,invoke,builtin,hd,hs,hrun,Result.andThen,Oper.uponIn]
  exact this
end
def gN(l:List Int):Nat:=l.foldl (fun s x=>s |||2 ^ x.toNat) 0
def iA(l1 l2 l3:List Int):Ht:=⟨fun i=>l1.getD i 0,fun i=>l2.getD i 0,gN l3⟩
theorem Es(l:List Int)(h:l.length≤3):splice [int i64 0,int i64 0,int i64 0,int i64 0,int i64 0,int i64 0,int i64 0,int i64 0,int i64 0,int i64 0] 0 (l.map (int i64))=
 [int i64 (l.getD 0 0),int i64 (l.getD 1 0),int i64 (l.getD 2 0),int i64 0,int i64 0,int i64 0,int i64 0,int i64 0,int i64 0,int i64 0]:=by
 match l,h with
 | [],_=>rfl
 | [_],_=>rfl
 | [_,_],_=>rfl
 | [_,_,_],_=>rfl
theorem Hz(a b c:Value)(l:List Int)(h:l.length≤6):splice [a,b,c,int i64 0,int i64 0,int i64 0,int i64 0,int i64 0,int i64 0,int i64 0] 3 (l.map (int i64))=
 [a,b,c,int i64 (l.getD 0 0),int i64 (l.getD 1 0),int i64 (l.getD 2 0),int i64 (l.getD 3 0),int i64 (l.getD 4 0),int i64 (l.getD 5 0),int i64 0]:=by
 match l,h with
 | [],_=>rfl
 | [_],_=>rfl
 | [_,_],_=>rfl
 | [_,_,_],_=>rfl
 | [_,_,_,_],_=>rfl
 | [_,_,_,_,_],_=>rfl
 | [_,_,_,_,_,_],_=>rfl
theorem or_bit:∀ (s:Fin 64) (m:Fin 6),bits BinOp.or IntKind.i64 ((s.val:Nat):Int) ((2:Int) ^ m.val)=((s.val |||2 ^ m.val:Nat):Int):=by decide+kernel
theorem Eb:∀ (l:List Int) (s:Nat),s<64→(∀x∈l,x.toNat<6)→l.foldl (fun s x=>s |||2 ^ x.toNat) s<64
 | [],s,h,_=>h
 | x :: l,s,h,hx=>Eb l _ (Nat.or_lt_two_pow (n:=6) h (by have:=hx x List.mem_cons_self;exact Nat.pow_lt_pow_right zD this)) (fun y hy=>hx y (List.mem_cons_of_mem _ hy))
theorem Gu(l:List Int){k:Nat}(hk:k<l.length):gN (l.take (k+1))=gN (l.take k) |||2 ^ (l.getD k 0).toNat:=by
 unfold gN
 rw[List.take_add_one,List.foldl_append]
 simp[hk]
theorem Gh(l1 l2 l3:List Int)(w:World)(A1 A2 A3:Option Addr)(p1 p2 p3:Nat)(hl1:l1.length≤3)(hl2:l2.length≤6)(hl3:l3.length≤6)(h3:∀x∈l3,0≤x∧x<6)
 (i1:Ints w w.heap.size A1 l1.length (fun i=>l1.getD i 0))(i2:Ints w w.heap.size A2 l2.length (fun i=>l2.getD i 0))(i3:Ints w w.heap.size A3 l3.length (fun i=>l3.getD i 0)):
 CallsIn FF 0 prog 89 #[.slice A1 l1.length p1,.slice A2 l2.length p2,.slice A3 l3.length p3] w fun e w'=>e=.returned (iA l1 l2 l3).val∧Below w.heap.size w w':=by
 have I1:=hid i1
 have I2:=hid i2
 have I3:=hid i3
 have H3:=hid h3
 obtain⟨i0,hi,hz0,hz1,hz2'⟩:=info_parts info3
 have hi0:=hid hi
 clear hi
 clear i1 i2 i3 h3
 have Z0:Whole ((w.alloc (.cells #[int i64 0,int i64 0,int i64 0,int i64 0,int i64 0,int i64 0,int i64 0,int i64 0,int i64 0,int i64 0] 88)).alloc (.cells #[int i64 0,int i64 0,int i64 0,int i64 0,int i64 0,int i64 0,int i64 0,int i64 0,int i64 0,int i64 0] 88)) (w.heap.size+1) 88 #[int i64 0,int i64 0,int i64 0,int i64 0,int i64 0,int i64 0,int i64 0,int i64 0,int i64 0,int i64 0]:=by
  have:=Whole.new (w.alloc (.cells #[int i64 0,int i64 0,int i64 0,int i64 0,int i64 0,int i64 0,int i64 0,int i64 0,int i64 0,int i64 0] 88)) 88 #[int i64 0,int i64 0,int i64 0,int i64 0,int i64 0,int i64 0,int i64 0,int i64 0,int i64 0,int i64 0]
  rwa[World.size_alloc] at this
 have Zr:Hid (Whole ((w.alloc (.cells #[int i64 0,int i64 0,int i64 0,int i64 0,int i64 0,int i64 0,int i64 0,int i64 0,int i64 0,int i64 0] 88)).alloc (.cells #[int i64 0,int i64 0,int i64 0,int i64 0,int i64 0,int i64 0,int i64 0,int i64 0,int i64 0,int i64 0] 88)) w.heap.size 88 #[int i64 0,int i64 0,int i64 0,int i64 0,int i64 0,int i64 0,int i64 0,int i64 0,int i64 0,int i64 0]):=hid ((Whole.new w 88 #[int i64 0,int i64 0,int i64 0,int i64 0,int i64 0,int i64 0,int i64 0,int i64 0,int i64 0,int i64 0]).alloc _)
 have ic:∀ (xs:List Int) (A:Option Addr) (W:World) (B:Nat),Ints W B A xs.length (fun i=>xs.getD i 0)→0<(xs.map (int i64)).length→∃ad,A=some ad∧∀j v,(xs.map (int i64))[j]? =some v→W.cell? (ad.add j)=some v:=fun xs A W B h hn=>by
  obtain⟨ad,rfl,-⟩:=h (by simpa using hn)
  refine⟨ad,rfl,fun j v hv=>?_⟩
  have hj:j<xs.length:=by
   have:=(List.getElem?_eq_some_iff.1 hv).1
   simpa using this
  rw[Ints.at_ h hj]
  simp[hj] at hv⊢
  exact hv
 have eA:(Tryz.prog.info? 3).map (·.size)=some 1:=by rw[hi0.out];simp[hz1]
 gi_enter func89,ntmps89
 gi_wp2_with (first
  | (refine qb rfl rfl _ _ _ _ rfl 3 underlying30 eA _ _ _ _ _ _ rfl rfl (w.heap.size+1) 0 [int i64 0,int i64 0,int i64 0,int i64 0,int i64 0,int i64 0,int i64 0,int i64 0,int i64 0,int i64 0] 88 Z0 (l1.map (int i64)) (by rw[List.length_map];exact(Nat.min_eq_left hl1).symm) (fun h=>⟨rfl,ic l1 A1 _ _ (aT I1.out (bw)) h⟩) zm (by simp[Value.oneCell']) ?_;intro w2 hg2 hb2 ho2 hs2;rw[Es l1 hl1] at hg2;have hz2:=hs2;simp at hz2;have hW2:Below w.heap.size w w2:=(bw:Below w.heap.size w _).trans (hb2.mono (Nat.le_succ _)))
  | (refine qb rfl rfl _ _ _ _ rfl 3 underlying30 eA _ _ _ _ _ _ rfl rfl (w.heap.size+1) 3 _ 88 hg2 (l2.map (int i64)) (by rw[List.length_map];exact(Nat.min_eq_left hl2).symm) (fun h=>⟨rfl,ic l2 A2 _ _ (aT I2.out hW2) h⟩) zm (by simp[Value.oneCell']) ?_;intro w3 hg3 hb3 ho3 hs3;rw[Hz _ _ _ l2 hl2] at hg3))
 have hzz:Whole w3 w.heap.size 88 #[int i64 0,int i64 0,int i64 0,int i64 0,int i64 0,int i64 0,int i64 0,int i64 0,int i64 0,int i64 0]:=(Zr.out.of (ho2 _ zo)).of (ho3 _ zo)
 have hW3:Below w.heap.size w w3:=hW2.trans (hb3.mono (Nat.le_succ _))
 obtain⟨fA,hfA⟩:∃fA:Nat→Int,fA=fun i=>l1.getD i 0:=⟨_,rfl⟩
 obtain⟨fM,Fi⟩:∃fM:Nat→Int,fM=fun i=>l2.getD i 0:=⟨_,rfl⟩
 have hg3':Whole w3 (w.heap.size+1) 88 (⟨fA,fM,gN (l3.take 0)⟩:Ht).cells:=by rw[hfA,Fi];exact hg3
 have XX:=hid hfA
 have YY:=hid Fi
 clear hfA Fi
 have G3:=hid hg3'
 have ZZ:=hid hzz
 have HW3:=hid hW3
 clear hg3' hzz hW3 hg3 hg2 hb2 hb3 hW2 ho2 ho3 Zr Z0 ic
 gi_loopw [20] (fun i wr=>∃k:Nat,k≤l3.length∧i=int i64 k∧Hid (Whole wr (w.heap.size+1) 88 (⟨fA,fM,gN (l3.take k)⟩:Ht).cells∧Whole wr w.heap.size 88 #[int i64 0,int i64 0,int i64 0,int i64 0,int i64 0,int i64 0,int i64 0,int i64 0,int i64 0,int i64 0]∧Below w.heap.size w wr)) (fun i _=>l3.length - (intOf i).toNat)
 case atStart=>exact⟨0,Nat.zero_le _,rfl,hid ⟨G3.out,ZZ.out,HW3.out⟩⟩
 case round=>
  obtain⟨k,hk,rfl,hR⟩:=hrel
  by_cases hlt:k<l3.length
  ·have HI3:=hid (aT I3.out hR.out.2.2)
   obtain⟨ad3,rfl,-⟩:=HI3.out (show 0<l3.length by omega)
   have ck:=Ints.at_ HI3.out hlt
   obtain⟨mv,hmv,GS⟩:∃mv:Nat,l3.getD k 0=(mv:Int)∧mv<6:=by
    have:=H3.out (l3.getD k 0) (by rw[show l3.getD k 0=l3[k] by simp[hlt]];exact List.getElem_mem _)
    exact⟨(l3.getD k 0).toNat,zo,zo⟩
   rw[hmv] at ck
   have aaB:gN (l3.take k)<64:=Eb _ 0 zD (fun x hx=>by have:=H3.out x (List.mem_of_mem_take hx);omega)
   have hnx:gN (l3.take (k+1))=gN (l3.take k) |||2 ^ mv:=by rw[Gu l3 hlt,hmv];rfl
   have HN:=hid hnx
   clear hnx
   obtain⟨sv,hsv⟩:∃sv,sv=gN (l3.take k):=⟨_,rfl⟩
   have hor:=or_bit ⟨sv,zo⟩ ⟨mv,GS⟩
   simp only at hor
   have hq:wr.cell? ⟨w.heap.size+1,9,none⟩=some (int i64 sv):=by rw[hsv];exact hR.out.1.cell 9
   have kq:=cell_regrown hq
   have hlt1:=hR.out.1.lt
   have key:∀M:Nat,M≤64→IntKind.i64.wrap (M:Int)=(M:Int):=fun M h=>IntWalk.i64_in _ zo
   have hw2:IntKind.i64.wrap ((2:Int) ^ mv)=(2:Int) ^ mv:=by
    have e:(2:Int) ^ mv=((2 ^ mv:Nat):Int):=by push_cast;rfl
    rw[e]
    exact key _ (Nat.le_trans (Nat.pow_le_pow_right zD (show mv≤6 by omega)) zD)
   clear key
   have em:min mv 64=mv:=Nat.min_eq_left zo
   have Pa:=hid hsv
   clear hsv hq
   gi_wp2
   refine aK 6 rfl zk zk ?_
   simp only[List.take_succ_cons,List.take_zero,List.drop_succ_cons,List.drop_zero]
   repeat (quiet_step_in (fail))
   refine wpQuietIn_nil ?_
   rintro w' ⟨⟨dq,osq⟩,rfl⟩
   have bD:=below_regrown wr dq osq
   clear kq
   generalize grow (redrawn wr dq) osq=w9 at bD⊢
   have V1:=hid (hR.out.1.below bD hR.out.1.lt)
   have V0:=hid (hR.out.2.1.below bD hR.out.2.1.lt)
   have hq:w9.cell? ⟨w.heap.size+1,9,none⟩=some (int i64 sv):=by rw[Pa.out];exact V1.out.cell 9
   have hqf:w9.frozen? ⟨w.heap.size+1,9,none⟩=false:=V1.out.thaw 9
   have tZ:=hid bD
   clear bD
   gi_wp2
   go_roundw
   case rel=>
    refine⟨k+1,zo,by go_num,hid ⟨?_,V0.out.other (p:=⟨w.heap.size+1,9,none⟩) zs _,(hR.out.2.2.trans (tZ.out.mono zo)).setCell (p:=⟨w.heap.size+1,9,none⟩) (Nat.le_succ _) _⟩⟩
    rw[HN.out,← Pa.out]
    exact V1.out.set 9 _
   case measure=>simp[intOf];omega
  ·obtain rfl:k=l3.length:=zo
   have q:∀i,wr.cell? ⟨w.heap.size+1,i,none⟩=(#[int i64 (fA 0),int i64 (fA 1),int i64 (fA 2),int i64 (fM 0),int i64 (fM 1),int i64 (fM 2),int i64 (fM 3),int i64 (fM 4),int i64 (fM 5),int i64 (gN l3:Nat)]:Array Value)[i]?:=by
    have:=hR.out.1
    rw[List.take_length] at this
    exact this.cell
   have z:=hR.out.2.1.cell
   have zf:=hR.out.2.1.thaw
   have hl0:=hR.out.2.1.lt
   gi_wp2
   have U:=((((((((((hR.out.2.1.set 0 (int i64 (fA 0))).set 1 (int i64 (fA 1))).set 2 (int i64 (fA 2))).set 3 (int i64 (fM 0))).set 4 (int i64 (fM 1))).set 5 (int i64 (fM 2))).set 6 (int i64 (fM 3))).set 7 (int i64 (fM 4))).set 8 (int i64 (fM 5))).set 9 (int i64 (gN l3:Nat)))
   have u0:=U.cell 0
   have u1:=U.cell 1
   have u2:=U.cell 2
   have u3:=U.cell 3
   have u4:=U.cell 4
   have u5:=U.cell 5
   have u6:=U.cell 6
   have u7:=U.cell 7
   have u8:=U.cell 8
   have u9:=U.cell 9
   clear q z zf
   refine bodyPost_ret (v:=.agg #[int i64 (fA 0),int i64 (fA 1),int i64 (fA 2),int i64 (fM 0),int i64 (fM 1),int i64 (fM 2),int i64 (fM 3),int i64 (fM 4),int i64 (fM 5),int i64 (gN l3:Nat)]) (by simp[results,results89,go_sem,u0,u1,u2,u3,u4,u5,u6,u7,u8,u9]) rfl ⟨by unfold iA;rw[← XX.out,← YY.out];rfl,((((((((((hR.out.2.2.setCell (p:=⟨w.heap.size,0,none⟩) (Nat.le_refl _) _).setCell (p:=⟨w.heap.size,1,none⟩) (Nat.le_refl _) _).setCell (p:=⟨w.heap.size,2,none⟩) (Nat.le_refl _) _).setCell (p:=⟨w.heap.size,3,none⟩) (Nat.le_refl _) _).setCell (p:=⟨w.heap.size,4,none⟩) (Nat.le_refl _) _).setCell (p:=⟨w.heap.size,5,none⟩) (Nat.le_refl _) _).setCell (p:=⟨w.heap.size,6,none⟩) (Nat.le_refl _) _).setCell (p:=⟨w.heap.size,7,none⟩) (Nat.le_refl _) _).setCell (p:=⟨w.heap.size,8,none⟩) (Nat.le_refl _) _).setCell (p:=⟨w.heap.size,9,none⟩) (Nat.le_refl _) _)⟩
end
section
open Go.RowKit
theorem Gv:∀ (l:List Int) (s k:Nat),(∀x∈l,0≤x)→(l.foldl (fun s x=>s |||2 ^ x.toNat) s).testBit k=(s.testBit k || decide ((k:Int)∈l))
 | [],s,k,_=>zs
 | x :: l,s,k,h=>by
   have hx:=h x List.mem_cons_self
   rw[List.foldl_cons,Gv l _ k (fun y hy=>h y (List.mem_cons_of_mem _ hy)),Nat.testBit_or,Nat.testBit_two_pow,Bool.or_assoc]
   congr 1
   by_cases hk:x.toNat=k
   ·have:(k:Int)=x:=zo
    simp[hk,this]
   ·have:¬ (k:Int)=x:=zo
    simp[hk,this]
theorem eC(l1 l2 l3:List Int)(k:Nat)(h:∀x∈l3,0≤x):(iA l1 l2 l3).BP k=decide ((k:Int)∈l3):=by
 have:=Gv l3 0 k h
 unfold Ht.BP iA gN
 rw[Nat.testBit_eq_decide_div_mod_eq] at this
 rw[this]
 simp
open Classical in
theorem Cy(b:Bk)(l1 l2 l3:List Int)(h:∀x∈l3,0≤x)(d:Int)(g:Nat):∀k,stk b (iA l1 l2 l3) d k g=l1.getD g 0+((List.range k).map fun i=>if (b.m i).day≤d∧¬ (i:Int)∈l3 then C6 b l2 g i else 0).sum
 | 0=>by simp[stk,iA]
 | Nat.succ k=>by
   have ih:=Cy b l1 l2 l3 h d g k
   rw[List.range_succ,List.map_append,List.sum_append,← Int.add_assoc,← ih]
   simp only[stk,List.map_cons,List.map_nil,List.sum_cons,List.sum_nil,Int.add_zero]
   by_cases hd:(b.m k).day≤d
   ·have hr:(iA l1 l2 l3).real k=if (k:Int)∈l3 then 0 else l2.getD k 0:=by
     unfold Ht.real
     rw[eC l1 l2 l3 k h]
     by_cases hm:(k:Int)∈l3 <;> simp[hm,iA]
    rw[if_pos hd]
    unfold uU Zl
    rw[hr]
    by_cases hm:(k:Int)∈l3
    ·simp[hm]
    ·simp only[hm,if_false,not_false_eq_true,and_true,hd,if_true]
     unfold C6
     by_cases hg:(b.m k).good=(g:Int) <;> simp[hg]
   ·simp[hd]
theorem Ia(b:Bk)(l1 l2 l3:List Int)(h:∀x∈l3,0≤x)(d:Int)(g:Nat):stk b (iA l1 l2 l3) d b.nm g=vO b l1 l2 l3 g d:=Cy b l1 l2 l3 h d g b.nm
theorem Gz(b:Bk)(l1 l2 l3:List Int)(h:∀x∈l3,0≤x)(g:Nat):∀k,Ee b (iA l1 l2 l3) k g=(List.range k).foldl (fun x (d:Nat)=>min x (vO b l1 l2 l3 g d)) (l1.getD g 0)
 | 0=>by simp[Ee,iA]
 | Nat.succ k=>by
   rw[List.range_succ,List.foldl_append,← Gz b l1 l2 l3 h g k]
   simp only[Ee,List.foldl_cons,List.foldl_nil]
   rw[Ia b l1 l2 l3 h]
theorem MB{b:Bk}{l1 l2 l3:List Int}(ok:b.Ok)(hp:vU b l1 l2 l3):oM (iA l1 l2 l3)∧(∀x∈l3,0≤x∧x<6)∧l3.length≤6:=by
 have h3:∀x∈l3,0≤x∧x<6:=fun x hx=>by
  obtain⟨i,rfl,hi,_⟩:=hp.came x hx
  have:=ok.moves.1
  omega
 have hl:l3.length≤6:=by
  have h6:(l3.map Int.toNat).Nodup:=by
   rw[List.nodup_iff_pairwise_ne,List.pairwise_map]
   refine hp.up.imp_of_mem ?_
   intro x y hx hy hxy e
   have:=h3 x hx
   have:=h3 y hy
   omega
  have h7:(l3.map Int.toNat) ⊆ List.range 6:=fun x hx=>by
   obtain⟨y,hy,rfl⟩:=List.mem_map.1 hx
   have:=h3 y hy
   simp;omega
  have:=tJ _ _ h6 h7
  simpa using this
 refine⟨⟨fun i _=>?_,fun i _=>?_,Eb l3 0 zD fun x hx=>by have:=h3 x hx;omega⟩,h3,hl⟩
 ·show 0≤l1.getD i 0∧l1.getD i 0≤99
  by_cases h:i<l1.length
  ·rw[show l1.getD i 0=l1[i] by simp[h]];exact hp.b1 _ (List.getElem_mem _)
  ·rw[show l1.getD i 0=0 by simp[show l1.length≤i by omega]];decide
 ·show 0≤l2.getD i 0∧l2.getD i 0≤99
  by_cases h:i<l2.length
  ·rw[show l2.getD i 0=l2[i] by simp[h]];exact hp.b2 _ (List.getElem_mem _)
  ·rw[show l2.getD i 0=0 by simp[show l2.length≤i by omega]];decide
end
section
open Go.RowKit Go.Sort
theorem xD(b:Bk)(l1 l2 l3:List Int)(w:World)(h:b.At w w.heap.size)(ok:b.Ok)(hcap:b.ng≤b.gc)(hp:vU b l1 l2 l3)(A1 A2 A3:Option Addr)(p1 p2 p3:Nat)
 (i1:Ints w w.heap.size A1 l1.length (fun i=>l1.getD i 0))(i2:Ints w w.heap.size A2 l2.length (fun i=>l2.getD i 0))(i3:Ints w w.heap.size A3 l3.length (fun i=>l3.getD i 0)):
 CallsIn FF 0 prog 52 #[b.val,.slice A1 l1.length p1,.slice A2 l2.length p2,.slice A3 l3.length p3] w fun e w'=>∃A n p,e=.returned (.tuple #[b.cD A n p,(iA l1 l2 l3).val,int i64 0])∧Below w.heap.size w w':=by
 have po:=MB ok hp
 have hC:∀w',Below w.heap.size w w'→CallsIn FF 0 prog 88 #[b.val,.slice A1 l1.length p1,.slice A2 l2.length p2,.slice A3 l3.length p3] w' fun e w2=>e=.returned (int i64 0)∧Below w'.heap.size w' w2:=fun w' hb=>
  FB b l1 l2 l3 w' ((h.below hb).more hb.size) ok hp A1 A2 A3 p1 p2 p3 (aT i1 hb) (aT i2 hb) (aT i3 hb)
 have hH:∀w',Below w.heap.size w w'→CallsIn FF 0 prog 89 #[.slice A1 l1.length p1,.slice A2 l2.length p2,.slice A3 l3.length p3] w' fun e w2=>e=.returned (iA l1 l2 l3).val∧Below w'.heap.size w' w2:=fun w' hb=>
  Gh l1 l2 l3 w' A1 A2 A3 p1 p2 p3 (by rw[hp.n1];exact ok.bM.1.2) (by rw[hp.n2];exact ok.moves.1) po.2.2 po.2.1 (aT i1 hb) (aT i2 hb) (aT i3 hb)
 have hO:∀w',Below w.heap.size w w'→CallsIn FF 0 prog 33 #[b.val] w' fun e w2=>∃A n p,e=.returned (.tuple #[b.cD A n p,int i64 0])∧Below w'.heap.size w' w2:=fun w' hb=>
  (TD b w' ((h.below hb).more hb.size) ok hcap).mono fun e w2 ⟨A,p,he,_,hb2⟩=>⟨A,_,p,he,hb2⟩
 obtain⟨days,most,gA,ng,gc,g,mA,nm,mc,m,cA,nc,cc,c⟩:=b
 obtain⟨n1,hn1⟩:∃n1,n1=l1.length:=⟨_,rfl⟩
 obtain⟨n2,hn2⟩:∃n2,n2=l2.length:=⟨_,rfl⟩
 obtain⟨n3,Qk⟩:∃n3,n3=l3.length:=⟨_,rfl⟩
 rw[← hn1,← hn2,← Qk] at hC hH⊢
 obtain⟨ht,hht⟩:∃ht,ht=iA l1 l2 l3:=⟨_,rfl⟩
 rw[← hht] at hH⊢
 clear hn1 hn2 Qk hht i1 i2 i3 po hp ok h hcap
 obtain⟨hf,hmm,lies⟩:=ht
 have pb:∀w',Below w.heap.size w w'→CallsIn FF 0 prog 33 #[.agg #[int i64 days,int i64 most,.slice gA ng gc,.slice mA nm mc,.slice cA nc cc]] w' fun e w2=>∃A n p,e=.returned (.tuple #[.agg #[int i64 days,int i64 most,.slice gA ng gc,.slice mA nm mc,.slice cA nc cc,.slice A n p],int i64 0])∧Below w'.heap.size w' w2:=hO
 simp only[Bk.val,Bk.cells,Ht.val,Ht.cells] at hC hH⊢
 have HC:=hid hC
 have HH:=hid hH
 have HO:=hid pb
 clear hC hH hO pb
 obtain⟨w3,hw3⟩:∃w3,w3=((w.alloc (.cells #[int i64 days,int i64 most,.slice gA ng gc,.slice mA nm mc,.slice cA nc cc] 26)).alloc (.cells #[int i64 0,int i64 0,.slice none 0 0,.slice none 0 0,.slice none 0 0,.slice none 0 0] 76)).alloc (.cells #[int i64 0,int i64 0,int i64 0,int i64 0,int i64 0,int i64 0,int i64 0,int i64 0,int i64 0,int i64 0] 88):=⟨_,rfl⟩
 have W0:Whole w3 w.heap.size 26 #[int i64 days,int i64 most,.slice gA ng gc,.slice mA nm mc,.slice cA nc cc]:=by rw[hw3];exact((Whole.new w _ _).alloc _).alloc _
 have W1:Whole w3 (w.heap.size+1) 76 #[int i64 0,int i64 0,.slice none 0 0,.slice none 0 0,.slice none 0 0,.slice none 0 0]:=by
  have:=(Whole.new (w.alloc (.cells #[int i64 days,int i64 most,.slice gA ng gc,.slice mA nm mc,.slice cA nc cc] 26)) 76 #[int i64 0,int i64 0,.slice none 0 0,.slice none 0 0,.slice none 0 0,.slice none 0 0]).alloc (.cells #[int i64 0,int i64 0,int i64 0,int i64 0,int i64 0,int i64 0,int i64 0,int i64 0,int i64 0,int i64 0] 88)
  rw[World.size_alloc] at this;rw[hw3];exact this
 have W2:Whole w3 (w.heap.size+1+1) 88 #[int i64 0,int i64 0,int i64 0,int i64 0,int i64 0,int i64 0,int i64 0,int i64 0,int i64 0,int i64 0]:=by
  have:=Whole.new ((w.alloc (.cells #[int i64 days,int i64 most,.slice gA ng gc,.slice mA nm mc,.slice cA nc cc] 26)).alloc (.cells #[int i64 0,int i64 0,.slice none 0 0,.slice none 0 0,.slice none 0 0,.slice none 0 0] 76)) 88 #[int i64 0,int i64 0,int i64 0,int i64 0,int i64 0,int i64 0,int i64 0,int i64 0,int i64 0,int i64 0]
  rw[World.size_alloc,World.size_alloc] at this;rw[hw3];exact this
 have WB:Below w.heap.size w w3:=by rw[hw3];exact bw
 have ki:=hid hw3
 have V1:=hid W1
 have V2:=hid W2
 have VB:=hid WB
 clear hw3 W0 W1 W2 WB
 gi_enter func52,ntmps52
 gi_wp2_with (first
  | (gi_at_call 33;rw[← ki.out];refine(HO.out _ VB.out).mono ?_;rintro e w5 ⟨A5,n5,p5,rfl,hb5⟩;have EW:=hid hb5;clear hb5;have Hc:=hid (Whole.new w5 76 #[int i64 days,int i64 most,.slice gA ng gc,.slice mA nm mc,.slice cA nc cc,.slice A5 n5 p5]);have hs5:=EW.out.size)
  | (gi_at_call 88;refine(HC.out _ (VB.out.trans ((EW.out.mono VB.out.size).trans (((Below.refl _ _).alloc (Nat.le_refl _) _).mono (Nat.le_trans VB.out.size EW.out.size))))).mono ?_;rintro e w7 ⟨rfl,DX⟩;have My:=hid DX;clear DX))
 have hs3:w.heap.size+1+1<w3.heap.size:=V2.out.lt
 have Vr:Hid (Below w3.heap.size w3 w7):=hid (EW.out.trans ((((Below.refl _ w5).alloc (Nat.le_refl _) _).mono hs5).trans (My.out.mono zm)))
 have C7:=hid (Hc.out.below My.out zs)
 have kc:=fun i=>C7.out.cell i
 have k0:=cell_regrown (C7.out.cell 0)
 have k1:=cell_regrown (C7.out.cell 1)
 have k2:=cell_regrown (C7.out.cell 2)
 have k3:=cell_regrown (C7.out.cell 3)
 have k4:=cell_regrown (C7.out.cell 4)
 have k5:=cell_regrown (C7.out.cell 5)
 clear kc
 have cH:∀d os,CallsIn FF 0 prog 89 #[.slice A1 n1 p1,.slice A2 n2 p2,.slice A3 n3 p3] (grow (redrawn w7 d) os) fun e w''=>e=.returned (.agg #[int i64 (hf 0),int i64 (hf 1),int i64 (hf 2),int i64 (hmm 0),int i64 (hmm 1),int i64 (hmm 2),int i64 (hmm 3),int i64 (hmm 4),int i64 (hmm 5),int i64 lies])∧∃p:Regrown,w''=grow (redrawn w7 p.d) p.os:=fun d os=>CallsIn.regrown_of (HH.out _ ((VB.out.trans (Vr.out.mono VB.out.size)).trans ((below_regrown w7 d os).mono (Nat.le_trans VB.out.size Vr.out.size))))
 refine aK 5 rfl zk zk ?_
 simp only[List.take_succ_cons,List.take_zero,List.drop_succ_cons,List.drop_zero]
 repeat (quiet_step_in (exact cH _ _))
 refine wpQuietIn_nil ?_
 rintro w' ⟨⟨dq,osq⟩,rfl⟩
 have bD:=below_regrown w7 dq osq
 clear k0 k1 k2 k3 k4 k5 cH
 generalize grow (redrawn w7 dq) osq=w9 at bD⊢
 have ae:Hid (Below w3.heap.size w3 w9):=hid (Vr.out.trans (bD.mono Vr.out.size))
 have X1:=hid (V1.out.below ae.out V1.out.lt)
 have X2:=hid (V2.out.below ae.out V2.out.lt)
 have X9:Hid (Below w.heap.size w w9):=hid (VB.out.trans (ae.out.mono VB.out.size))
 have x1:=X1.out.cell
 have f1:=X1.out.thaw
 have x2:=X2.out.cell
 have f2:=X2.out.thaw
 have t1:=X1.out.lt
 have t2:=X2.out.lt
 clear bD hs3 hs5
 gi_wp2
 have hne:w.heap.size+1+1≠w.heap.size+1:=zo
 have hne':w.heap.size+1≠w.heap.size+1+1:=zo
 have h1:w.heap.size≤w.heap.size+1:=zo
 have h2:w.heap.size≤w.heap.size+1+1:=zo
 have U1:=((((((((((((((((X1.out.set 0 (int i64 days)).set 1 (int i64 most)).set 2 (.slice gA ng gc)).set 3 (.slice mA nm mc)).set 4 (.slice cA nc cc)).set 5 (.slice A5 n5 p5)).other (p:=⟨w.heap.size+1+1,0,none⟩) hne' (int i64 (hf 0))).other (p:=⟨w.heap.size+1+1,1,none⟩) hne' (int i64 (hf 1))).other (p:=⟨w.heap.size+1+1,2,none⟩) hne' (int i64 (hf 2))).other (p:=⟨w.heap.size+1+1,3,none⟩) hne' (int i64 (hmm 0))).other (p:=⟨w.heap.size+1+1,4,none⟩) hne' (int i64 (hmm 1))).other (p:=⟨w.heap.size+1+1,5,none⟩) hne' (int i64 (hmm 2))).other (p:=⟨w.heap.size+1+1,6,none⟩) hne' (int i64 (hmm 3))).other (p:=⟨w.heap.size+1+1,7,none⟩) hne' (int i64 (hmm 4))).other (p:=⟨w.heap.size+1+1,8,none⟩) hne' (int i64 (hmm 5))).other (p:=⟨w.heap.size+1+1,9,none⟩) hne' (int i64 lies))
 have U2:=((((((((((((((((X2.out.other (p:=⟨w.heap.size+1,0,none⟩) hne (int i64 days)).other (p:=⟨w.heap.size+1,1,none⟩) hne (int i64 most)).other (p:=⟨w.heap.size+1,2,none⟩) hne (.slice gA ng gc)).other (p:=⟨w.heap.size+1,3,none⟩) hne (.slice mA nm mc)).other (p:=⟨w.heap.size+1,4,none⟩) hne (.slice cA nc cc)).other (p:=⟨w.heap.size+1,5,none⟩) hne (.slice A5 n5 p5)).set 0 (int i64 (hf 0))).set 1 (int i64 (hf 1))).set 2 (int i64 (hf 2))).set 3 (int i64 (hmm 0))).set 4 (int i64 (hmm 1))).set 5 (int i64 (hmm 2))).set 6 (int i64 (hmm 3))).set 7 (int i64 (hmm 4))).set 8 (int i64 (hmm 5))).set 9 (int i64 lies))
 have UB:=((((((((((((((((X9.out.setCell (p:=⟨w.heap.size+1,0,none⟩) h1 (int i64 days)).setCell (p:=⟨w.heap.size+1,1,none⟩) h1 (int i64 most)).setCell (p:=⟨w.heap.size+1,2,none⟩) h1 (.slice gA ng gc)).setCell (p:=⟨w.heap.size+1,3,none⟩) h1 (.slice mA nm mc)).setCell (p:=⟨w.heap.size+1,4,none⟩) h1 (.slice cA nc cc)).setCell (p:=⟨w.heap.size+1,5,none⟩) h1 (.slice A5 n5 p5)).setCell (p:=⟨w.heap.size+1+1,0,none⟩) h2 (int i64 (hf 0))).setCell (p:=⟨w.heap.size+1+1,1,none⟩) h2 (int i64 (hf 1))).setCell (p:=⟨w.heap.size+1+1,2,none⟩) h2 (int i64 (hf 2))).setCell (p:=⟨w.heap.size+1+1,3,none⟩) h2 (int i64 (hmm 0))).setCell (p:=⟨w.heap.size+1+1,4,none⟩) h2 (int i64 (hmm 1))).setCell (p:=⟨w.heap.size+1+1,5,none⟩) h2 (int i64 (hmm 2))).setCell (p:=⟨w.heap.size+1+1,6,none⟩) h2 (int i64 (hmm 3))).setCell (p:=⟨w.heap.size+1+1,7,none⟩) h2 (int i64 (hmm 4))).setCell (p:=⟨w.heap.size+1+1,8,none⟩) h2 (int i64 (hmm 5))).setCell (p:=⟨w.heap.size+1+1,9,none⟩) h2 (int i64 lies))
 have q0:=U1.cell 0
 have q1:=U1.cell 1
 have q2:=U1.cell 2
 have q3:=U1.cell 3
 have q4:=U1.cell 4
 have q5:=U1.cell 5
 have r0:=U2.cell 0
 have r1:=U2.cell 1
 have r2:=U2.cell 2
 have r3:=U2.cell 3
 have r4:=U2.cell 4
 have r5:=U2.cell 5
 have r6:=U2.cell 6
 have r7:=U2.cell 7
 have r8:=U2.cell 8
 have r9:=U2.cell 9
 clear x1 f1 x2 f2 t1 t2 U1 U2
 refine bodyPost_ret (v:=.tuple #[.agg #[int i64 days,int i64 most,.slice gA ng gc,.slice mA nm mc,.slice cA nc cc,.slice A5 n5 p5],.agg #[int i64 (hf 0),int i64 (hf 1),int i64 (hf 2),int i64 (hmm 0),int i64 (hmm 1),int i64 (hmm 2),int i64 (hmm 3),int i64 (hmm 4),int i64 (hmm 5),int i64 lies],int i64 0]) (by simp[results,results52,go_sem,q0,q1,q2,q3,q4,q5,r0,r1,r2,r3,r4,r5,r6,r7,r8,r9]) rfl ⟨A5,n5,p5,rfl,UB⟩
end
section
open Go.RowKit
theorem Ls(xs:Nat→Int)(A:Option Addr)(n p:Nat)(w:World)(hI:Ints w w.heap.size A n xs)(hn:0<n)(Qk:n≤3):
 CallsIn FF 0 prog 54 #[.slice A n p] w fun e w'=>∃A' p',e=.returned (.slice A' n p')∧Ints w' w'.heap.size A' n xs∧Below w.heap.size w w':=by
 obtain⟨ad,rfl,-⟩:=hI hn
 have HI:=hid hI
 clear hI
 obtain⟨i0,hi,hz0,hz1,hz2⟩:=info_parts info3
 have hi0:=hid hi
 clear hi
 have he:∀w,(binOp BinOp.eql 30 (.slice (some ad) n p) (.slice none 0 0)).run prog w=.ok (.bool false) w:=fun w=>zk
 gi_enter func54,ntmps54
 have hown:(w.alloc (.cells #[] 3)).ownsRow w.heap.size 3 1 (.slice (some ⟨w.heap.size,0,none⟩) 0 0) 0 []:=⟨rfl,.inr ⟨_,_,_,rfl,Nat.le_refl _,heap_alloc_new w _,Nat.le_refl _,Nat.zero_le _,rfl,rfl⟩⟩
 have BC:=hid hown
 clear hown
 have hnews:∀j u,((List.range n).map fun i=>int i64 (xs i))[j]? =some u→(w.alloc (.cells #[] 3)).cell? (ad.add j)=some u:=fun j u hu=>by
  have hj:j<n:=by
   have:=(List.getElem?_eq_some_iff.1 hu).1
   simpa using this
  have e:=Ints.at_ (HI.out.alloc (Nat.le_refl _) (.cells #[] 3)) hj
  rw[e]
  simp[hj] at hu⊢
  exact hu
 have Hn:=hid hnews
 clear hnews
 gi_wp2_with (gi_at_builtin;refine aF rfl rfl rfl fun K5 iX=>?_;refine wp_append_lies _ _ _ _ rfl w.heap.size 3 i0 _ 1 8 underlying30 hi0.out hz0 hz1 hz2 rfl zo (.slice (some ⟨w.heap.size,0,none⟩) 0 0) 0 _ rfl BC.out ad n p ((List.range n).map fun i=>int i64 (xs i)) rfl zs Hn.out (by simp[Value.oneCell']) hn zU zo zs (w.heap.size+1) zs ?_;intro pz nD w5 hown5 aM lG nI;refine iX _ _ ?_;clear iX K5)
 go_ret
 refine⟨_,_,rfl,?_,((Below.refl _ _).alloc (Nat.le_refl _) _).trans (below_grown aM zs (fun g hg=>by cases hg;exact Nat.le_refl _))⟩
 intro _
 obtain⟨g,cap,hv,_,hlt⟩:=hown5.form zo
 have hA:(some ⟨pz,0,none⟩:Option Addr)=some ⟨g,0,none⟩:=by injection hv
 cases hA
 refine⟨_,rfl,nI,fun i j hi hj=>?_⟩
 obtain rfl:j=0:=zo
 have:=hown5.cells (g:=pz) rfl i (int i64 (xs i)) (by simp[hi])
 simpa [Addr.add] using this
end
end Go.Proofs.YthaelabgfnnebaaGreat
