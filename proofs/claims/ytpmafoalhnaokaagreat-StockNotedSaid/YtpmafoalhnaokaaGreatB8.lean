/- P16 P17 P22 P23 TH0 TH1 WKc EXi AL CD HJ CL CS TF -/
import Derived.Test.YtpmafoalhnaokaaGreatB7
import Derived.Laws.CopyOwn
import Derived.Conc.LoneCalls
set_option maxRecDepth 100000
set_option maxHeartbeats 16000000
set_option linter.unusedVariables false
set_option linter.unusedSectionVars false
open Go.IntKind(i64)
open Go.Lib(hid)
open Go.Proofs.Tryz
open Go.Value(int)
namespace Go.Proofs.YtpmafoalhnaokaaGreat
section
open Go.RowKit Go.Sort
section
variable{F:Fence}{n:Nat}{P:Program}
theorem qG{ops:Array Oper}{rest:List Oper}{o:Oper}{a:Act}{w:World}{Q:Exit→Act→World→Prop}(hro:F.round=none)(hgd:o.guard=none)(d s:Operand)(dT sT:TypeId)
 (ho:o.op=.call {callee:=.builtin .copy,args:=#[d,s],argTypes:=#[dT,sT] })(elem:TypeId)(hu:P.underlying dT=some (.slice elem))(hsz:(P.info? elem).map (·.size)=some 1)
 (dp sp:Option Addr)(dLen dCap sLen sCap:Nat)(hd:a.eval d=.slice dp dLen dCap)(hs:a.eval s=.slice sp sLen sCap)
 (g off:Nat)(cur:List Value)(t:TypeId)(hg:w.heap[g]? =some (.cells cur.toArray t (0,0)))(cs:List Value)(hn:cs.length=Nat.min sLen dLen)
 (hpos:0<cs.length→dp=some ⟨g,off,none⟩∧∃ad,sp=some ad∧∀j v,cs[j]? =some v→w.cell? (ad.add j)=some v)
 (hfit:off+cs.length≤cur.length)(h1:∀v∈cs,v.oneCell'=true)
 (h:∀w',w'.heap[g]? =some (.cells (splice cur off cs).toArray t (0,0))→Below g w w'→(∀b,b≠g→w'.heap[b]? =w.heap[b]?)→w'.heap.size=w.heap.size→wpListIn F n P ops Q rest (a.put o.dst (goInt cs.length)) w'):
 wpListIn F n P ops Q (o :: rest) a w:=by
 refine wpListIn_plain hgd fun K hK=>?_
 refine⟨fun f hf=>(by rw[qb ho] at hf;cases hf),?_⟩
 rw[hro,Oper.semAt_none]
 by_cases h0:cs.length=0
 ·obtain rfl:cs=[]:=List.eq_nil_of_length_eq_zero h0
  have hrun:=run_copy_none (P:=P) w dT sT o.type elem dp sp dLen dCap sLen sCap hu hsz (by simpa using hn.symm)
  have:=hK _ _ (h w (show _=_ by simpa [splice] using hg) zB (fun _ _=>rfl) rfl)
  simp[execOp,ho,resolve,invoke,builtin,hd,hs,hrun,Result.andThen,Oper.uponIn]
  exact this
 ·obtain⟨rfl,ad,rfl,hsrc⟩:=hpos zo
  have hrun:=run_copy_row (P:=P) w dT sT o.type elem g off dLen dCap ad sLen sCap cur.toArray t cs hu hsz hg hn hsrc (by simpa using hfit) h1
  have:=hK _ _ (h _ (show _=_ by simpa [splice] using setRow_heap w g _ _ t _ hg) (below_setRow zB zL _) (fun b hb=>setRow_other w g b _ hb) (by simp[World.setRow]))
  simp[execOp,ho,resolve,invoke,builtin,hd,hs,hrun,Result.andThen,Oper.uponIn]
  exact this
end
def gX(l:List Int):Nat:=l.foldl (fun s x=>s |||2 ^ x.toNat) 0
def iM(l1 l2 l3:List Int):Ht:=⟨fun i=>l1.getD i 0,fun i=>l2.getD i 0,gX l3⟩
theorem FC(l:List Int)(h:l.length≤3):splice [int i64 0,int i64 0,int i64 0,int i64 0,int i64 0,int i64 0,int i64 0,int i64 0,int i64 0,int i64 0] 0 (l.map (int i64))=
 [int i64 (l.getD 0 0),int i64 (l.getD 1 0),int i64 (l.getD 2 0),int i64 0,int i64 0,int i64 0,int i64 0,int i64 0,int i64 0,int i64 0]:=by
 match l,h with
 | [],_=>rfl
 | [_],_=>rfl
 | [_,_],_=>rfl
 | [_,_,_],_=>rfl
theorem Ji(a b c:Value)(l:List Int)(h:l.length≤6):splice [a,b,c,int i64 0,int i64 0,int i64 0,int i64 0,int i64 0,int i64 0,int i64 0] 3 (l.map (int i64))=
 [a,b,c,int i64 (l.getD 0 0),int i64 (l.getD 1 0),int i64 (l.getD 2 0),int i64 (l.getD 3 0),int i64 (l.getD 4 0),int i64 (l.getD 5 0),int i64 0]:=by
 match l,h with
 | [],_=>rfl
 | [_],_=>rfl
 | [_,_],_=>rfl
 | [_,_,_],_=>rfl
 | [_,_,_,_],_=>rfl
 | [_,_,_,_,_],_=>rfl
 | [_,_,_,_,_,_],_=>rfl
theorem or_bit:∀ (s:Fin 64) (m:Fin 6),bits BinOp.or IntKind.i64 ((s.val:Nat):Int) ((2:Int) ^ m.val)=((s.val |||2 ^ m.val:Nat):Int):=by decide+kernel
theorem EY:∀ (l:List Int) (s:Nat),s<64→(∀x∈l,x.toNat<6)→l.foldl (fun s x=>s |||2 ^ x.toNat) s<64
 | [],s,h,_=>h
 | x :: l,s,h,hx=>EY l _ (Nat.or_lt_two_pow (n:=6) h (by have:=hx x List.mem_cons_self;exact Nat.pow_lt_pow_right zD this)) (fun y hy=>hx y (List.mem_cons_of_mem _ hy))
theorem IG(l:List Int){k:Nat}(hk:k<l.length):gX (l.take (k+1))=gX (l.take k) |||2 ^ (l.getD k 0).toNat:=by
 unfold gX
 rw[List.take_add_one,List.foldl_append]
 simp[hk]
theorem Ip(l1 l2 l3:List Int)(w:World)(A1 A2 A3:Option Addr)(p1 p2 p3:Nat)(hl1:l1.length≤3)(hl2:l2.length≤6)(hl3:l3.length≤6)(h3:∀x∈l3,0≤x∧x<6)
 (i1:Ints w w.heap.size A1 l1.length (fun i=>l1.getD i 0))(i2:Ints w w.heap.size A2 l2.length (fun i=>l2.getD i 0))(i3:Ints w w.heap.size A3 l3.length (fun i=>l3.getD i 0)):
 CallsIn FF 0 prog 87 #[.slice A1 l1.length p1,.slice A2 l2.length p2,.slice A3 l3.length p3] w fun e w'=>e=.returned (iM l1 l2 l3).val∧Below w.heap.size w w':=by
 have I1:=hid i1
 have I2:=hid i2
 have I3:=hid i3
 have H3:=hid h3
 obtain⟨i0,hi,hz0,hz1,hz2'⟩:=info_parts info3
 have hi0:=hid hi
 clear hi
 clear i1 i2 i3 h3
 have Z0:Whole ((w.alloc (.cells #[int i64 0,int i64 0,int i64 0,int i64 0,int i64 0,int i64 0,int i64 0,int i64 0,int i64 0,int i64 0] 91)).alloc (.cells #[int i64 0,int i64 0,int i64 0,int i64 0,int i64 0,int i64 0,int i64 0,int i64 0,int i64 0,int i64 0] 91)) (w.heap.size+1) 91 #[int i64 0,int i64 0,int i64 0,int i64 0,int i64 0,int i64 0,int i64 0,int i64 0,int i64 0,int i64 0]:=by
  have:=Whole.new (w.alloc (.cells #[int i64 0,int i64 0,int i64 0,int i64 0,int i64 0,int i64 0,int i64 0,int i64 0,int i64 0,int i64 0] 91)) 91 #[int i64 0,int i64 0,int i64 0,int i64 0,int i64 0,int i64 0,int i64 0,int i64 0,int i64 0,int i64 0]
  rwa[World.size_alloc] at this
 have Zr:Hid (Whole ((w.alloc (.cells #[int i64 0,int i64 0,int i64 0,int i64 0,int i64 0,int i64 0,int i64 0,int i64 0,int i64 0,int i64 0] 91)).alloc (.cells #[int i64 0,int i64 0,int i64 0,int i64 0,int i64 0,int i64 0,int i64 0,int i64 0,int i64 0,int i64 0] 91)) w.heap.size 91 #[int i64 0,int i64 0,int i64 0,int i64 0,int i64 0,int i64 0,int i64 0,int i64 0,int i64 0,int i64 0]):=hid ((Whole.new w 91 #[int i64 0,int i64 0,int i64 0,int i64 0,int i64 0,int i64 0,int i64 0,int i64 0,int i64 0,int i64 0]).alloc _)
 have ic:∀ (xs:List Int) (A:Option Addr) (W:World) (B:Nat),Ints W B A xs.length (fun i=>xs.getD i 0)→0<(xs.map (int i64)).length→∃ad,A=some ad∧∀j v,(xs.map (int i64))[j]? =some v→W.cell? (ad.add j)=some v:=fun xs A W B h hn=>by
  obtain⟨ad,rfl,-⟩:=h (by simpa using hn)
  refine⟨ad,rfl,fun j v hv=>?_⟩
  have hj:j<xs.length:=by
   have:=(List.getElem?_eq_some_iff.1 hv).1
   simpa using this
  rw[Ints.at_ h hj]
  simp[hj] at hv⊢
  exact hv
 have Uz:(Tryz.prog.info? 3).map (·.size)=some 1:=by rw[hi0.out];simp[hz1]
 gi_enter func87,ntmps87
 gi_wp2_with (first
  | (refine qG rfl rfl _ _ _ _ rfl 3 underlying51 Uz _ _ _ _ _ _ rfl rfl (w.heap.size+1) 0 [int i64 0,int i64 0,int i64 0,int i64 0,int i64 0,int i64 0,int i64 0,int i64 0,int i64 0,int i64 0] 91 Z0 (l1.map (int i64)) (by rw[List.length_map];exact(Nat.min_eq_left hl1).symm) (fun h=>⟨rfl,ic l1 A1 _ _ (bJ I1.out (bw)) h⟩) zm (by simp[Value.oneCell']) ?_;intro w2 hg2 hb2 ho2 hs2;rw[FC l1 hl1] at hg2;have hz2:=hs2;simp at hz2;have hW2:Below w.heap.size w w2:=(bw:Below w.heap.size w _).trans (hb2.mono (Nat.le_succ _)))
  | (refine qG rfl rfl _ _ _ _ rfl 3 underlying51 Uz _ _ _ _ _ _ rfl rfl (w.heap.size+1) 3 _ 91 hg2 (l2.map (int i64)) (by rw[List.length_map];exact(Nat.min_eq_left hl2).symm) (fun h=>⟨rfl,ic l2 A2 _ _ (bJ I2.out hW2) h⟩) zm (by simp[Value.oneCell']) ?_;intro w3 hg3 hb3 ho3 hs3;rw[Ji _ _ _ l2 hl2] at hg3))
 have hzz:Whole w3 w.heap.size 91 #[int i64 0,int i64 0,int i64 0,int i64 0,int i64 0,int i64 0,int i64 0,int i64 0,int i64 0,int i64 0]:=(Zr.out.of (ho2 _ zo)).of (ho3 _ zo)
 have hW3:Below w.heap.size w w3:=hW2.trans (hb3.mono (Nat.le_succ _))
 obtain⟨fA,hfA⟩:∃fA:Nat→Int,fA=fun i=>l1.getD i 0:=⟨_,rfl⟩
 obtain⟨fM,Sx⟩:∃fM:Nat→Int,fM=fun i=>l2.getD i 0:=⟨_,rfl⟩
 have hg3':Whole w3 (w.heap.size+1) 91 (⟨fA,fM,gX (l3.take 0)⟩:Ht).cells:=by rw[hfA,Sx];exact hg3
 have HFA:=hid hfA
 have HFM:=hid Sx
 clear hfA Sx
 have G3:=hid hg3'
 have ZZ:=hid hzz
 have HW3:=hid hW3
 clear hg3' hzz hW3 hg3 hg2 hb2 hb3 hW2 ho2 ho3 Zr Z0 ic
 gi_loopw [20] (fun i wr=>∃k:Nat,k≤l3.length∧i=int i64 k∧Hid (Whole wr (w.heap.size+1) 91 (⟨fA,fM,gX (l3.take k)⟩:Ht).cells∧Whole wr w.heap.size 91 #[int i64 0,int i64 0,int i64 0,int i64 0,int i64 0,int i64 0,int i64 0,int i64 0,int i64 0,int i64 0]∧Below w.heap.size w wr)) (fun i _=>l3.length - (intOf i).toNat)
 case atStart=>exact⟨0,Nat.zero_le _,rfl,hid ⟨G3.out,ZZ.out,HW3.out⟩⟩
 case round=>
  obtain⟨k,hk,rfl,hR⟩:=hrel
  by_cases hlt:k<l3.length
  ·have HI3:=hid (bJ I3.out hR.out.2.2)
   obtain⟨ad3,rfl,-⟩:=HI3.out (show 0<l3.length by omega)
   have ck:=Ints.at_ HI3.out hlt
   obtain⟨mv,hmv,Tl⟩:∃mv:Nat,l3.getD k 0=(mv:Int)∧mv<6:=by
    have:=H3.out (l3.getD k 0) (by rw[show l3.getD k 0=l3[k] by simp[hlt]];exact List.getElem_mem _)
    exact⟨(l3.getD k 0).toNat,zo,zo⟩
   rw[hmv] at ck
   have aaQ:gX (l3.take k)<64:=EY _ 0 zD (fun x hx=>by have:=H3.out x (List.mem_of_mem_take hx);omega)
   have hnx:gX (l3.take (k+1))=gX (l3.take k) |||2 ^ mv:=by rw[IG l3 hlt,hmv];rfl
   have HN:=hid hnx
   clear hnx
   obtain⟨sv,hsv⟩:∃sv,sv=gX (l3.take k):=zE
   have hor:=or_bit ⟨sv,zo⟩ ⟨mv,Tl⟩
   simp only at hor
   have hq:wr.cell? ⟨w.heap.size+1,9,none⟩=some (int i64 sv):=by rw[hsv];exact hR.out.1.cell 9
   have kq:=cell_regrown hq
   have hlt1:=hR.out.1.lt
   have key:∀M:Nat,M≤64→IntKind.i64.wrap (M:Int)=(M:Int):=fun M h=>IntWalk.i64_in _ zo
   have hw2:IntKind.i64.wrap ((2:Int) ^ mv)=(2:Int) ^ mv:=by
    have e:(2:Int) ^ mv=((2 ^ mv:Nat):Int):=by push_cast;rfl
    rw[e]
    exact key _ (Nat.le_trans (Nat.pow_le_pow_right zD (show mv≤6 by omega)) zD)
   clear key
   have em:min mv 64=mv:=Nat.min_eq_left zo
   have HSV:=hid hsv
   clear hsv hq
   gi_wp2
   refine aJ 6 rfl zk zk ?_
   simp only[List.take_succ_cons,List.take_zero,List.drop_succ_cons,List.drop_zero]
   repeat (quiet_step_in (fail))
   refine wpQuietIn_nil ?_
   rintro w' ⟨⟨dq,osq⟩,rfl⟩
   have bn:=below_regrown wr dq osq
   clear kq
   generalize grow (redrawn wr dq) osq=w9 at bn⊢
   have V1:=hid (hR.out.1.below bn hR.out.1.lt)
   have V0:=hid (hR.out.2.1.below bn hR.out.2.1.lt)
   have hq:w9.cell? ⟨w.heap.size+1,9,none⟩=some (int i64 sv):=by rw[HSV.out];exact V1.out.cell 9
   have hqf:w9.frozen? ⟨w.heap.size+1,9,none⟩=false:=V1.out.thaw 9
   have uX:=hid bn
   clear bn
   gi_wp2
   go_roundw
   case rel=>
    refine⟨k+1,zo,by go_num,hid ⟨?_,V0.out.other (p:=⟨w.heap.size+1,9,none⟩) zs _,(hR.out.2.2.trans (uX.out.mono zo)).setCell (p:=⟨w.heap.size+1,9,none⟩) (Nat.le_succ _) _⟩⟩
    rw[HN.out,← HSV.out]
    exact V1.out.set 9 _
   case measure=>simp[intOf];omega
  ·obtain rfl:k=l3.length:=zo
   have q:∀i,wr.cell? ⟨w.heap.size+1,i,none⟩=(#[int i64 (fA 0),int i64 (fA 1),int i64 (fA 2),int i64 (fM 0),int i64 (fM 1),int i64 (fM 2),int i64 (fM 3),int i64 (fM 4),int i64 (fM 5),int i64 (gX l3:Nat)]:Array Value)[i]?:=by
    have:=hR.out.1
    rw[List.take_length] at this
    exact this.cell
   have z:=hR.out.2.1.cell
   have zf:=hR.out.2.1.thaw
   have hl0:=hR.out.2.1.lt
   gi_wp2
   have U:=((((((((((hR.out.2.1.set 0 (int i64 (fA 0))).set 1 (int i64 (fA 1))).set 2 (int i64 (fA 2))).set 3 (int i64 (fM 0))).set 4 (int i64 (fM 1))).set 5 (int i64 (fM 2))).set 6 (int i64 (fM 3))).set 7 (int i64 (fM 4))).set 8 (int i64 (fM 5))).set 9 (int i64 (gX l3:Nat)))
   have u0:=U.cell 0
   have u1:=U.cell 1
   have u2:=U.cell 2
   have u3:=U.cell 3
   have u4:=U.cell 4
   have u5:=U.cell 5
   have u6:=U.cell 6
   have u7:=U.cell 7
   have u8:=U.cell 8
   have u9:=U.cell 9
   clear q z zf
   refine bodyPost_ret (v:=.agg #[int i64 (fA 0),int i64 (fA 1),int i64 (fA 2),int i64 (fM 0),int i64 (fM 1),int i64 (fM 2),int i64 (fM 3),int i64 (fM 4),int i64 (fM 5),int i64 (gX l3:Nat)]) (by simp[results,results87,go_sem,u0,u1,u2,u3,u4,u5,u6,u7,u8,u9]) rfl ⟨by unfold iM;rw[← HFA.out,← HFM.out];rfl,((((((((((hR.out.2.2.setCell (p:=⟨w.heap.size,0,none⟩) zL _).setCell (p:=⟨w.heap.size,1,none⟩) zL _).setCell (p:=⟨w.heap.size,2,none⟩) zL _).setCell (p:=⟨w.heap.size,3,none⟩) zL _).setCell (p:=⟨w.heap.size,4,none⟩) zL _).setCell (p:=⟨w.heap.size,5,none⟩) zL _).setCell (p:=⟨w.heap.size,6,none⟩) zL _).setCell (p:=⟨w.heap.size,7,none⟩) zL _).setCell (p:=⟨w.heap.size,8,none⟩) zL _).setCell (p:=⟨w.heap.size,9,none⟩) zL _)⟩
end
section
open Go.RowKit
theorem II:∀ (l:List Int) (s k:Nat),(∀x∈l,0≤x)→(l.foldl (fun s x=>s |||2 ^ x.toNat) s).testBit k=(s.testBit k || decide ((k:Int)∈l))
 | [],s,k,_=>zs
 | x :: l,s,k,h=>by
   have hx:=h x List.mem_cons_self
   rw[List.foldl_cons,II l _ k (fun y hy=>h y (List.mem_cons_of_mem _ hy)),Nat.testBit_or,Nat.testBit_two_pow,Bool.or_assoc]
   congr 1
   by_cases hk:x.toNat=k
   ·have:(k:Int)=x:=zo
    simp[hk,this]
   ·have:¬ (k:Int)=x:=zo
    simp[hk,this]
theorem lE(l1 l2 l3:List Int)(k:Nat)(h:∀x∈l3,0≤x):(iM l1 l2 l3).JJ k=decide ((k:Int)∈l3):=by
 have:=II l3 0 k h
 unfold Ht.JJ iM gX
 rw[Nat.testBit_eq_decide_div_mod_eq] at this
 rw[this]
 simp
open Classical in
theorem DN(b:Bk)(l1 l2 l3:List Int)(h:∀x∈l3,0≤x)(d:Int)(g:Nat):∀k,stk b (iM l1 l2 l3) d k g=l1.getD g 0+((List.range k).map fun i=>if (b.m i).day≤d∧¬ (i:Int)∈l3 then PT b l2 g i else 0).sum
 | 0=>by simp[stk,iM]
 | Nat.succ k=>by
   have ih:=DN b l1 l2 l3 h d g k
   rw[List.range_succ,List.map_append,List.sum_append,← Int.add_assoc,← ih]
   simp only[stk,List.map_cons,List.map_nil,List.sum_cons,List.sum_nil,Int.add_zero]
   by_cases hd:(b.m k).day≤d
   ·have hr:(iM l1 l2 l3).real k=if (k:Int)∈l3 then 0 else l2.getD k 0:=by
     unfold Ht.real
     rw[lE l1 l2 l3 k h]
     by_cases hm:(k:Int)∈l3 <;> simp[hm,iM]
    rw[if_pos hd]
    unfold Gb uu
    rw[hr]
    by_cases hm:(k:Int)∈l3
    ·simp[hm]
    ·simp only[hm,if_false,not_false_eq_true,and_true,hd,if_true]
     unfold PT
     by_cases hg:(b.m k).good=(g:Int) <;> simp[hg]
   ·simp[hd]
theorem Jo(b:Bk)(l1 l2 l3:List Int)(h:∀x∈l3,0≤x)(d:Int)(g:Nat):stk b (iM l1 l2 l3) d b.nm g=wT b l1 l2 l3 g d:=DN b l1 l2 l3 h d g b.nm
theorem IQ(b:Bk)(l1 l2 l3:List Int)(h:∀x∈l3,0≤x)(g:Nat):∀k,E9 b (iM l1 l2 l3) k g=(List.range k).foldl (fun x (d:Nat)=>min x (wT b l1 l2 l3 g d)) (l1.getD g 0)
 | 0=>by simp[E9,iM]
 | Nat.succ k=>by
   rw[List.range_succ,List.foldl_append,← IQ b l1 l2 l3 h g k]
   simp only[E9,List.foldl_cons,List.foldl_nil]
   rw[Jo b l1 l2 l3 h]
theorem Oi{b:Bk}{l1 l2 l3:List Int}(ok:b.Ok)(hp:wY b l1 l2 l3):pK (iM l1 l2 l3)∧(∀x∈l3,0≤x∧x<6)∧l3.length≤6:=by
 have h3:∀x∈l3,0≤x∧x<6:=fun x hx=>by
  obtain⟨i,rfl,hi,_⟩:=hp.came x hx
  have:=ok.moves.1
  omega
 have hl:l3.length≤6:=by
  have h6:(l3.map Int.toNat).Nodup:=by
   rw[List.nodup_iff_pairwise_ne,List.pairwise_map]
   refine hp.up.imp_of_mem ?_
   intro x y hx hy hxy e
   have:=h3 x hx
   have:=h3 y hy
   omega
  have h7:(l3.map Int.toNat) ⊆ List.range 6:=fun x hx=>by
   obtain⟨y,hy,rfl⟩:=List.mem_map.1 hx
   have:=h3 y hy
   simp;omega
  have:=uM _ _ h6 h7
  simpa using this
 refine⟨⟨fun i _=>?_,fun i _=>?_,EY l3 0 zD fun x hx=>by have:=h3 x hx;omega⟩,h3,hl⟩
 ·show 0≤l1.getD i 0∧l1.getD i 0≤99
  by_cases h:i<l1.length
  ·rw[show l1.getD i 0=l1[i] by simp[h]];exact hp.b1 _ (List.getElem_mem _)
  ·rw[show l1.getD i 0=0 by simp[show l1.length≤i by omega]];decide
 ·show 0≤l2.getD i 0∧l2.getD i 0≤99
  by_cases h:i<l2.length
  ·rw[show l2.getD i 0=l2[i] by simp[h]];exact hp.b2 _ (List.getElem_mem _)
  ·rw[show l2.getD i 0=0 by simp[show l2.length≤i by omega]];decide
end
section
open Go.RowKit Go.Sort
theorem yG(b:Bk)(l1 l2 l3:List Int)(w:World)(h:b.At w w.heap.size)(ok:b.Ok)(hcap:b.ng≤b.gc)(hp:wY b l1 l2 l3)(A1 A2 A3:Option Addr)(p1 p2 p3:Nat)
 (i1:Ints w w.heap.size A1 l1.length (fun i=>l1.getD i 0))(i2:Ints w w.heap.size A2 l2.length (fun i=>l2.getD i 0))(i3:Ints w w.heap.size A3 l3.length (fun i=>l3.getD i 0)):
 CallsIn FF 0 prog 46 #[b.val,.slice A1 l1.length p1,.slice A2 l2.length p2,.slice A3 l3.length p3] w fun e w'=>∃A n p,e=.returned (.tuple #[b.jb A n p,(iM l1 l2 l3).val,int i64 0])∧Below w.heap.size w w':=by
 have po:=Oi ok hp
 have hC:∀w',Below w.heap.size w w'→CallsIn FF 0 prog 86 #[b.val,.slice A1 l1.length p1,.slice A2 l2.length p2,.slice A3 l3.length p3] w' fun e w2=>e=.returned (int i64 0)∧Below w'.heap.size w' w2:=fun w' hb=>
  GU b l1 l2 l3 w' ((h.below hb).more hb.size) ok hp A1 A2 A3 p1 p2 p3 (bJ i1 hb) (bJ i2 hb) (bJ i3 hb)
 have hH:∀w',Below w.heap.size w w'→CallsIn FF 0 prog 87 #[.slice A1 l1.length p1,.slice A2 l2.length p2,.slice A3 l3.length p3] w' fun e w2=>e=.returned (iM l1 l2 l3).val∧Below w'.heap.size w' w2:=fun w' hb=>
  Ip l1 l2 l3 w' A1 A2 A3 p1 p2 p3 (by rw[hp.n1];exact ok.bE.1.2) (by rw[hp.n2];exact ok.moves.1) po.2.2 po.2.1 (bJ i1 hb) (bJ i2 hb) (bJ i3 hb)
 have hO:∀w',Below w.heap.size w w'→CallsIn FF 0 prog 37 #[b.val] w' fun e w2=>∃A n p,e=.returned (.tuple #[b.jb A n p,int i64 0])∧Below w'.heap.size w' w2:=fun w' hb=>
  (Vr b w' ((h.below hb).more hb.size) ok hcap).mono fun e w2 ⟨A,p,he,_,hb2⟩=>⟨A,_,p,he,hb2⟩
 obtain⟨dY,mO,gA,ng,gc,g,mA,nm,mc,m,cA,nc,cc,c⟩:=b
 obtain⟨n1,hn1⟩:∃n1,n1=l1.length:=zE
 obtain⟨n2,hn2⟩:∃n2,n2=l2.length:=zE
 obtain⟨n3,NU⟩:∃n3,n3=l3.length:=zE
 rw[← hn1,← hn2,← NU] at hC hH⊢
 obtain⟨ht,hht⟩:∃ht,ht=iM l1 l2 l3:=zE
 rw[← hht] at hH⊢
 clear hn1 hn2 NU hht i1 i2 i3 po hp ok h hcap
 obtain⟨hf,hmm,lies⟩:=ht
 have vn:∀w',Below w.heap.size w w'→CallsIn FF 0 prog 37 #[.agg #[int i64 dY,int i64 mO,.slice gA ng gc,.slice mA nm mc,.slice cA nc cc]] w' fun e w2=>∃A n p,e=.returned (.tuple #[.agg #[int i64 dY,int i64 mO,.slice gA ng gc,.slice mA nm mc,.slice cA nc cc,.slice A n p],int i64 0])∧Below w'.heap.size w' w2:=hO
 simp only[Bk.val,Bk.cells,Ht.val,Ht.cells] at hC hH⊢
 have HC:=hid hC
 have HH:=hid hH
 have HO:=hid vn
 clear hC hH hO vn
 obtain⟨w3,hw3⟩:∃w3,w3=((w.alloc (.cells #[int i64 dY,int i64 mO,.slice gA ng gc,.slice mA nm mc,.slice cA nc cc] 26)).alloc (.cells #[int i64 0,int i64 0,.slice none 0 0,.slice none 0 0,.slice none 0 0,.slice none 0 0] 75)).alloc (.cells #[int i64 0,int i64 0,int i64 0,int i64 0,int i64 0,int i64 0,int i64 0,int i64 0,int i64 0,int i64 0] 91):=zE
 have W0:Whole w3 w.heap.size 26 #[int i64 dY,int i64 mO,.slice gA ng gc,.slice mA nm mc,.slice cA nc cc]:=by rw[hw3];exact((Whole.new w _ _).alloc _).alloc _
 have W1:Whole w3 (w.heap.size+1) 75 #[int i64 0,int i64 0,.slice none 0 0,.slice none 0 0,.slice none 0 0,.slice none 0 0]:=by
  have:=(Whole.new (w.alloc (.cells #[int i64 dY,int i64 mO,.slice gA ng gc,.slice mA nm mc,.slice cA nc cc] 26)) 75 #[int i64 0,int i64 0,.slice none 0 0,.slice none 0 0,.slice none 0 0,.slice none 0 0]).alloc (.cells #[int i64 0,int i64 0,int i64 0,int i64 0,int i64 0,int i64 0,int i64 0,int i64 0,int i64 0,int i64 0] 91)
  rw[World.size_alloc] at this;rw[hw3];exact this
 have W2:Whole w3 (w.heap.size+1+1) 91 #[int i64 0,int i64 0,int i64 0,int i64 0,int i64 0,int i64 0,int i64 0,int i64 0,int i64 0,int i64 0]:=by
  have:=Whole.new ((w.alloc (.cells #[int i64 dY,int i64 mO,.slice gA ng gc,.slice mA nm mc,.slice cA nc cc] 26)).alloc (.cells #[int i64 0,int i64 0,.slice none 0 0,.slice none 0 0,.slice none 0 0,.slice none 0 0] 75)) 91 #[int i64 0,int i64 0,int i64 0,int i64 0,int i64 0,int i64 0,int i64 0,int i64 0,int i64 0,int i64 0]
  rw[World.size_alloc,World.size_alloc] at this;rw[hw3];exact this
 have WB:Below w.heap.size w w3:=by rw[hw3];exact bw
 have p7:=hid hw3
 have V1:=hid W1
 have V2:=hid W2
 have VB:=hid WB
 clear hw3 W0 W1 W2 WB
 gi_enter func46,ntmps46
 gi_wp2_with (first
  | (gi_at_call 37;rw[← p7.out];refine(HO.out _ VB.out).mono ?_;rintro e w5 ⟨A5,n5,p5,rfl,hb5⟩;have Gj:=hid hb5;clear hb5;have Hc:=hid (Whole.new w5 75 #[int i64 dY,int i64 mO,.slice gA ng gc,.slice mA nm mc,.slice cA nc cc,.slice A5 n5 p5]);have hs5:=Gj.out.size)
  | (gi_at_call 86;refine(HC.out _ (VB.out.trans ((Gj.out.mono VB.out.size).trans ((zB.alloc zL _).mono (Nat.le_trans VB.out.size Gj.out.size))))).mono ?_;rintro e w7 ⟨rfl,xZ⟩;have HB7:=hid xZ;clear xZ))
 have hs3:w.heap.size+1+1<w3.heap.size:=V2.out.lt
 have Xu:Hid (Below w3.heap.size w3 w7):=hid (Gj.out.trans ((((Below.refl _ w5).alloc zL _).mono hs5).trans (HB7.out.mono zm)))
 have C7:=hid (Hc.out.below HB7.out zs)
 have kc:=fun i=>C7.out.cell i
 have k0:=cell_regrown (C7.out.cell 0)
 have k1:=cell_regrown (C7.out.cell 1)
 have k2:=cell_regrown (C7.out.cell 2)
 have k3:=cell_regrown (C7.out.cell 3)
 have k4:=cell_regrown (C7.out.cell 4)
 have k5:=cell_regrown (C7.out.cell 5)
 clear kc
 have cH:∀d os,CallsIn FF 0 prog 87 #[.slice A1 n1 p1,.slice A2 n2 p2,.slice A3 n3 p3] (grow (redrawn w7 d) os) fun e w''=>e=.returned (.agg #[int i64 (hf 0),int i64 (hf 1),int i64 (hf 2),int i64 (hmm 0),int i64 (hmm 1),int i64 (hmm 2),int i64 (hmm 3),int i64 (hmm 4),int i64 (hmm 5),int i64 lies])∧∃p:Regrown,w''=grow (redrawn w7 p.d) p.os:=fun d os=>CallsIn.regrown_of (HH.out _ ((VB.out.trans (Xu.out.mono VB.out.size)).trans ((below_regrown w7 d os).mono (Nat.le_trans VB.out.size Xu.out.size))))
 refine aJ 5 rfl zk zk ?_
 simp only[List.take_succ_cons,List.take_zero,List.drop_succ_cons,List.drop_zero]
 repeat (quiet_step_in (exact cH _ _))
 refine wpQuietIn_nil ?_
 rintro w' ⟨⟨dq,osq⟩,rfl⟩
 have bn:=below_regrown w7 dq osq
 clear k0 k1 k2 k3 k4 k5 cH
 generalize grow (redrawn w7 dq) osq=w9 at bn⊢
 have fN:Hid (Below w3.heap.size w3 w9):=hid (Xu.out.trans (bn.mono Xu.out.size))
 have X1:=hid (V1.out.below fN.out V1.out.lt)
 have X2:=hid (V2.out.below fN.out V2.out.lt)
 have X9:Hid (Below w.heap.size w w9):=hid (VB.out.trans (fN.out.mono VB.out.size))
 have x1:=X1.out.cell
 have f1:=X1.out.thaw
 have x2:=X2.out.cell
 have f2:=X2.out.thaw
 have t1:=X1.out.lt
 have t2:=X2.out.lt
 clear bn hs3 hs5
 gi_wp2
 have hne:w.heap.size+1+1≠w.heap.size+1:=zo
 have hne':w.heap.size+1≠w.heap.size+1+1:=zo
 have h1:w.heap.size≤w.heap.size+1:=zo
 have h2:w.heap.size≤w.heap.size+1+1:=zo
 have U1:=((((((((((((((((X1.out.set 0 (int i64 dY)).set 1 (int i64 mO)).set 2 (.slice gA ng gc)).set 3 (.slice mA nm mc)).set 4 (.slice cA nc cc)).set 5 (.slice A5 n5 p5)).other (p:=⟨w.heap.size+1+1,0,none⟩) hne' (int i64 (hf 0))).other (p:=⟨w.heap.size+1+1,1,none⟩) hne' (int i64 (hf 1))).other (p:=⟨w.heap.size+1+1,2,none⟩) hne' (int i64 (hf 2))).other (p:=⟨w.heap.size+1+1,3,none⟩) hne' (int i64 (hmm 0))).other (p:=⟨w.heap.size+1+1,4,none⟩) hne' (int i64 (hmm 1))).other (p:=⟨w.heap.size+1+1,5,none⟩) hne' (int i64 (hmm 2))).other (p:=⟨w.heap.size+1+1,6,none⟩) hne' (int i64 (hmm 3))).other (p:=⟨w.heap.size+1+1,7,none⟩) hne' (int i64 (hmm 4))).other (p:=⟨w.heap.size+1+1,8,none⟩) hne' (int i64 (hmm 5))).other (p:=⟨w.heap.size+1+1,9,none⟩) hne' (int i64 lies))
 have U2:=((((((((((((((((X2.out.other (p:=⟨w.heap.size+1,0,none⟩) hne (int i64 dY)).other (p:=⟨w.heap.size+1,1,none⟩) hne (int i64 mO)).other (p:=⟨w.heap.size+1,2,none⟩) hne (.slice gA ng gc)).other (p:=⟨w.heap.size+1,3,none⟩) hne (.slice mA nm mc)).other (p:=⟨w.heap.size+1,4,none⟩) hne (.slice cA nc cc)).other (p:=⟨w.heap.size+1,5,none⟩) hne (.slice A5 n5 p5)).set 0 (int i64 (hf 0))).set 1 (int i64 (hf 1))).set 2 (int i64 (hf 2))).set 3 (int i64 (hmm 0))).set 4 (int i64 (hmm 1))).set 5 (int i64 (hmm 2))).set 6 (int i64 (hmm 3))).set 7 (int i64 (hmm 4))).set 8 (int i64 (hmm 5))).set 9 (int i64 lies))
 have UB:=((((((((((((((((X9.out.setCell (p:=⟨w.heap.size+1,0,none⟩) h1 (int i64 dY)).setCell (p:=⟨w.heap.size+1,1,none⟩) h1 (int i64 mO)).setCell (p:=⟨w.heap.size+1,2,none⟩) h1 (.slice gA ng gc)).setCell (p:=⟨w.heap.size+1,3,none⟩) h1 (.slice mA nm mc)).setCell (p:=⟨w.heap.size+1,4,none⟩) h1 (.slice cA nc cc)).setCell (p:=⟨w.heap.size+1,5,none⟩) h1 (.slice A5 n5 p5)).setCell (p:=⟨w.heap.size+1+1,0,none⟩) h2 (int i64 (hf 0))).setCell (p:=⟨w.heap.size+1+1,1,none⟩) h2 (int i64 (hf 1))).setCell (p:=⟨w.heap.size+1+1,2,none⟩) h2 (int i64 (hf 2))).setCell (p:=⟨w.heap.size+1+1,3,none⟩) h2 (int i64 (hmm 0))).setCell (p:=⟨w.heap.size+1+1,4,none⟩) h2 (int i64 (hmm 1))).setCell (p:=⟨w.heap.size+1+1,5,none⟩) h2 (int i64 (hmm 2))).setCell (p:=⟨w.heap.size+1+1,6,none⟩) h2 (int i64 (hmm 3))).setCell (p:=⟨w.heap.size+1+1,7,none⟩) h2 (int i64 (hmm 4))).setCell (p:=⟨w.heap.size+1+1,8,none⟩) h2 (int i64 (hmm 5))).setCell (p:=⟨w.heap.size+1+1,9,none⟩) h2 (int i64 lies))
 have q0:=U1.cell 0
 have q1:=U1.cell 1
 have q2:=U1.cell 2
 have q3:=U1.cell 3
 have q4:=U1.cell 4
 have q5:=U1.cell 5
 have r0:=U2.cell 0
 have r1:=U2.cell 1
 have r2:=U2.cell 2
 have r3:=U2.cell 3
 have r4:=U2.cell 4
 have r5:=U2.cell 5
 have r6:=U2.cell 6
 have r7:=U2.cell 7
 have r8:=U2.cell 8
 have r9:=U2.cell 9
 clear x1 f1 x2 f2 t1 t2 U1 U2
 refine bodyPost_ret (v:=.tuple #[.agg #[int i64 dY,int i64 mO,.slice gA ng gc,.slice mA nm mc,.slice cA nc cc,.slice A5 n5 p5],.agg #[int i64 (hf 0),int i64 (hf 1),int i64 (hf 2),int i64 (hmm 0),int i64 (hmm 1),int i64 (hmm 2),int i64 (hmm 3),int i64 (hmm 4),int i64 (hmm 5),int i64 lies],int i64 0]) (by simp[results,results46,go_sem,q0,q1,q2,q3,q4,q5,r0,r1,r2,r3,r4,r5,r6,r7,r8,r9]) rfl ⟨A5,n5,p5,rfl,UB⟩
theorem m4:XJ:=by
 intro b l1 l2 l3 w ok hcap hp h A1 A2 A3 p1 p2 p3 i1 i2 i3
 have po:=Oi ok hp
 have h0:∀x∈l3,0≤x:=fun x hx=>(po.2.1 x hx).1
 have hO:=yG b l1 l2 l3 w h ok hcap hp A1 A2 A3 p1 p2 p3 i1 i2 i3
 have hO2:∀W,Below W.heap.size W W:=fun W=>zB
 have hO3:∀w',Below w.heap.size w w'→CallsIn FF 0 prog 46 #[b.val,.slice A1 l1.length p1,.slice A2 l2.length p2,.slice A3 l3.length p3] w' fun e w2=>∃A n p,e=.returned (.tuple #[b.jb A n p,(iM l1 l2 l3).val,int i64 0])∧Below w'.heap.size w' w2:=fun w' hb=>
  yG b l1 l2 l3 w' ((h.below hb).more hb.size) ok hcap hp A1 A2 A3 p1 p2 p3 (bJ i1 hb) (bJ i2 hb) (bJ i3 hb)
 have hS:∀w',Below w.heap.size w w'→CallsIn FF 0 prog 47 #[b.val,(iM l1 l2 l3).val,int i64 b.dY] w' fun e w2=>e=.returned (mF (stk b (iM l1 l2 l3) b.dY b.nm))∧Below w'.heap.size w' w2:=fun w' hb=>
  gK b (iM l1 l2 l3) b.dY w' ((h.below hb).more hb.size) ok.moves ok.bE.1.2 po.1
 have hL:∀w',Below w.heap.size w w'→CallsIn FF 0 prog 48 #[b.val,(iM l1 l2 l3).val] w' fun e w2=>e=.returned (mF (E9 b (iM l1 l2 l3) (b.dY.toNat+1)))∧Below w'.heap.size w' w2:=fun w' hb=>
  AT b (iM l1 l2 l3) w' ((h.below hb).more hb.size) ok.moves ok.dY ok.bE.1.2 po.1
 have eS:∀q,stk b (iM l1 l2 l3) b.dY b.nm q=EW b l1 l2 l3 q:=fun q=>Jo b l1 l2 l3 h0 b.dY q
 have eL:∀q,E9 b (iM l1 l2 l3) (b.dY.toNat+1) q=NZ b l1 l2 l3 q:=fun q=>IQ b l1 l2 l3 h0 q _
 unfold Gp
 simp only[← eS,← eL]
 clear eS eL hO hO2 h0
 obtain⟨S,hSd⟩:∃S,S=stk b (iM l1 l2 l3) b.dY b.nm:=zE
 obtain⟨L,hLd⟩:∃L,L=E9 b (iM l1 l2 l3) (b.dY.toNat+1):=zE
 rw[← hSd] at hS⊢
 rw[← hLd] at hL⊢
 obtain⟨n1,hn1⟩:∃n1,n1=l1.length:=zE
 obtain⟨n2,hn2⟩:∃n2,n2=l2.length:=zE
 obtain⟨n3,NU⟩:∃n3,n3=l3.length:=zE
 rw[← hn1,← hn2,← NU] at hO3⊢
 obtain⟨ht,hht⟩:∃ht,ht=iM l1 l2 l3:=zE
 rw[← hht] at hO3 hS hL
 have wu:=ok.bE.1
 clear hn1 hn2 NU hht i1 i2 i3 po hp ok h hcap hSd hLd
 obtain⟨dY,mO,gA,ng,gc,g,mA,nm,mc,m,cA,nc,cc,c⟩:=b
 obtain⟨hf,hmm,lies⟩:=ht
 simp only at wu
 have vn:∀w',Below w.heap.size w w'→CallsIn FF 0 prog 46 #[.agg #[int i64 dY,int i64 mO,.slice gA ng gc,.slice mA nm mc,.slice cA nc cc],.slice A1 n1 p1,.slice A2 n2 p2,.slice A3 n3 p3] w' fun e w2=>∃A n p,e=.returned (.tuple #[.agg #[int i64 dY,int i64 mO,.slice gA ng gc,.slice mA nm mc,.slice cA nc cc,.slice A n p],.agg #[int i64 (hf 0),int i64 (hf 1),int i64 (hf 2),int i64 (hmm 0),int i64 (hmm 1),int i64 (hmm 2),int i64 (hmm 3),int i64 (hmm 4),int i64 (hmm 5),int i64 lies],int i64 0])∧Below w'.heap.size w' w2:=hO3
 simp only[Bk.val,Bk.cells,Ht.val,Ht.cells,mF] at hS hL⊢
 have HS:=hid hS
 have HL:=hid hL
 have HO:=hid vn
 clear hS hL hO3 vn
 have VB:Hid (Below w.heap.size w (w.alloc (.cells #[int i64 dY,int i64 mO,.slice gA ng gc,.slice mA nm mc,.slice cA nc cc] 26))):=hid (bw)
 gi_enter func18,ntmps18
 gi_wp2_with (gi_at_call 46;refine(HO.out _ VB.out).mono ?_;rintro e w5 ⟨A5,n5,p5,rfl,hb5⟩;have Gj:=hid hb5;clear hb5;have hs5:=Gj.out.size;have Gu:=hid ((Whole.new w5 75 #[int i64 dY,int i64 mO,.slice gA ng gc,.slice mA nm mc,.slice cA nc cc,.slice A5 n5 p5]).alloc (.cells #[int i64 (hf 0),int i64 (hf 1),int i64 (hf 2),int i64 (hmm 0),int i64 (hmm 1),int i64 (hmm 2),int i64 (hmm 3),int i64 (hmm 4),int i64 (hmm 5),int i64 lies] 91));have Xl:=hid (Whole.new (w5.alloc (.cells #[int i64 dY,int i64 mO,.slice gA ng gc,.slice mA nm mc,.slice cA nc cc,.slice A5 n5 p5] 75)) 91 #[int i64 (hf 0),int i64 (hf 1),int i64 (hf 2),int i64 (hmm 0),int i64 (hmm 1),int i64 (hmm 2),int i64 (hmm 3),int i64 (hmm 4),int i64 (hmm 5),int i64 lies]))
 obtain⟨w6,wC⟩:∃w6,w6=(w5.alloc (.cells #[int i64 dY,int i64 mO,.slice gA ng gc,.slice mA nm mc,.slice cA nc cc,.slice A5 n5 p5] 75)).alloc (.cells #[int i64 (hf 0),int i64 (hf 1),int i64 (hf 2),int i64 (hmm 0),int i64 (hmm 1),int i64 (hmm 2),int i64 (hmm 3),int i64 (hmm 4),int i64 (hmm 5),int i64 lies] 91):=zE
 have Kh:Hid (Whole w6 w5.heap.size 75 #[int i64 dY,int i64 mO,.slice gA ng gc,.slice mA nm mc,.slice cA nc cc,.slice A5 n5 p5]):=hid (by rw[wC];exact Gu.out)
 have xu:Hid (Whole w6 (w5.heap.size+1) 91 #[int i64 (hf 0),int i64 (hf 1),int i64 (hf 2),int i64 (hmm 0),int i64 (hmm 1),int i64 (hmm 2),int i64 (hmm 3),int i64 (hmm 4),int i64 (hmm 5),int i64 lies]):=hid (by have:=Xl.out;rw[World.size_alloc] at this;rw[wC];exact this)
 have lK:Hid (Below w.heap.size w w6):=hid (by
  rw[wC]
  exact((VB.out.trans (Gj.out.mono VB.out.size)).alloc (by have:=VB.out.size;omega) _).alloc (by have:=VB.out.size;simp;omega) _)
 have hs6:w6.heap.size=w5.heap.size+2:=by rw[wC];simp
 rw[← wC]
 clear wC Gu Xl
 gi_wp2
 rename_i Qr Kr hKr
 have rest:∀ (IT I0:Nat) (wz:World),Below w6.heap.size w6 wz→Whole wz IT 88 #[int i64 (S 0),int i64 (S 1),int i64 (S 2)]→Whole wz I0 88 #[int i64 (L 0),int i64 (L 1),int i64 (L 2)]→Kr {tmps:=#[Value.agg #[int i64 dY,int i64 mO,.slice gA ng gc,.slice mA nm mc,.slice cA nc cc],.slice A1 n1 p1,.slice A2 n2 p2,.slice A3 n3 p3,.pointer (some ⟨w.heap.size,0,none⟩),undef,undef,undef,.slice none 0 0,.slice none 0 0,int i64 0,Value.pointer (some ⟨w5.heap.size,0,none⟩),.pointer (some ⟨w5.heap.size+1,0,none⟩),.pointer (some ⟨IT,0,none⟩),.pointer (some ⟨I0,0,none⟩),undef,Value.tuple #[Value.agg #[int i64 dY,int i64 mO,.slice gA ng gc,.slice mA nm mc,.slice cA nc cc,.slice A5 n5 p5],Value.agg #[int i64 (hf 0),int i64 (hf 1),int i64 (hf 2),int i64 (hmm 0),int i64 (hmm 1),int i64 (hmm 2),int i64 (hmm 3),int i64 (hmm 4),int i64 (hmm 5),int i64 lies],int i64 0],Value.agg #[int i64 dY,int i64 mO,.slice gA ng gc,.slice mA nm mc,.slice cA nc cc],.slice A1 n1 p1,.slice A2 n2 p2,.slice A3 n3 p3,Value.tuple #[Value.agg #[int i64 dY,int i64 mO,.slice gA ng gc,.slice mA nm mc,.slice cA nc cc,.slice A5 n5 p5],Value.agg #[int i64 (hf 0),int i64 (hf 1),int i64 (hf 2),int i64 (hmm 0),int i64 (hmm 1),int i64 (hmm 2),int i64 (hmm 3),int i64 (hmm 4),int i64 (hmm 5),int i64 lies],int i64 0],Value.agg #[int i64 dY,int i64 mO,.slice gA ng gc,.slice mA nm mc,.slice cA nc cc,.slice A5 n5 p5],Value.agg #[int i64 (hf 0),int i64 (hf 1),int i64 (hf 2),int i64 (hmm 0),int i64 (hmm 1),int i64 (hmm 2),int i64 (hmm 3),int i64 (hmm 4),int i64 (hmm 5),int i64 lies],int i64 0,int i64 0,.bool false,undef,Value.pointer (some ⟨w5.heap.size,0,none⟩),Value.agg #[int i64 dY,int i64 mO,.slice gA ng gc,.slice mA nm mc,.slice cA nc cc],Value.agg #[int i64 (hf 0),int i64 (hf 1),int i64 (hf 2),int i64 (hmm 0),int i64 (hmm 1),int i64 (hmm 2),int i64 (hmm 3),int i64 (hmm 4),int i64 (hmm 5),int i64 lies],Value.pointer (some ⟨w5.heap.size,0,none⟩),Value.pointer (some ⟨w5.heap.size,0,none⟩),Value.pointer (some ⟨w5.heap.size,0,none⟩),int i64 dY,.agg #[int i64 (S 0),int i64 (S 1),int i64 (S 2)],Value.pointer (some ⟨w5.heap.size,0,none⟩),Value.agg #[int i64 dY,int i64 mO,.slice gA ng gc,.slice mA nm mc,.slice cA nc cc],Value.agg #[int i64 (hf 0),int i64 (hf 1),int i64 (hf 2),int i64 (hmm 0),int i64 (hmm 1),int i64 (hmm 2),int i64 (hmm 3),int i64 (hmm 4),int i64 (hmm 5),int i64 lies],.agg #[int i64 (L 0),int i64 (L 1),int i64 (L 2)],undef,undef,undef,undef,undef,undef,undef,undef,undef,undef,undef],defers:=[] } wz:=by
  intro IT I0 wz hbz h13 h14
  refine hKr _ _ ?_
  have GW:=hid (Kh.out.below hbz Kh.out.lt)
  have uX:Hid (Below w.heap.size w wz):=hid (lK.out.trans (hbz.mono lK.out.size))
  have y:∀i,wz.cell? ⟨w5.heap.size,i,none⟩=(#[int i64 dY,int i64 mO,.slice gA ng gc,.slice mA nm mc,.slice cA nc cc,.slice A5 n5 p5]:Array Value)[i]?:=GW.out.cell
  have MT:=hid h13
  have MY:=hid h14
  clear hKr hbz h13 h14
  have NU:(ng:Int)≤3:=zo
  have hn0:(0:Int)≤(ng:Int):=zo
  gi_wp2
  refine iY 8 (fun _=>True) zk ?_
  have hS:True:=trivial
  have hB1:Below w.heap.size w wz.drew:=dR uX.out
  have tR:=hid (show Whole wz.drew _ _ _ from MT.out)
  have qf:=hid (show Whole wz.drew _ _ _ from MY.out)
  obtain⟨wd,hwd⟩:∃wd,wd=wz.drew:=zE
  rw[← hwd] at tR qf hB1⊢
  refine Cc (i:=0) (some 45) hS ?_
  simp only[Act.put,List.setIfInBounds_toArray,List.set]
  refine Cc (i:=1) (some 46) hS ?_
  simp only[Act.put,List.setIfInBounds_toArray,List.set]
  refine Cc (i:=3) (some 48) hS ?_
  simp only[Act.put,List.setIfInBounds_toArray,List.set]
  refine Cc (i:=4) (some 49) hS ?_
  simp only[Act.put,List.setIfInBounds_toArray,List.set]
  clear hwd
  have ints:∀ (wq:World) (B:Nat) (f:Nat→Int),Whole wq B 88 #[int i64 (f 0),int i64 (f 1),int i64 (f 2)]→Ints wq wq.heap.size (some ⟨B,0,none⟩) ng f:=fun wq B f hW hn=>by
   refine⟨_,rfl,hW.lt,fun i j hi hj=>?_⟩
   obtain rfl:j=0:=zo
   have e:((⟨B,0,none⟩:Addr).add (i * 1+0))=⟨B,i,none⟩:=by unfold Addr.add;split <;> simp_all
   rw[e,hW.cell]
   rcases(show i=0∨i=1∨i=2 by omega) with rfl|rfl|rfl <;> rfl
  refine bf 2 fun K hK=>?_
  go_simp
  refine(Nk S _ ng 3 _ (ints _ _ _ tR.out) zo zo).mono ?_
  rintro e w1 ⟨E1,f1,rfl,hI1,hb1⟩
  have HI1:=hid hI1
  have HBa:Hid (Below w.heap.size w w1):=hid (hB1.trans (hb1.mono hB1.size))
  have OF:=hid (qf.out.below hb1 qf.out.lt)
  clear hI1 hb1 hB1
  refine hK.out _ _ (fun _=>hS) ?_
  clear hK K
  refine bf 5 fun K hK=>?_
  go_simp
  refine(Nk L _ ng 3 _ (ints _ _ _ OF.out) zo zo).mono ?_
  rintro e w2 ⟨E2,f2,rfl,hI2,hb2⟩
  have HI2:=hid hI2
  have LL:=hid (bJ HI1.out hb2)
  have HBb:Hid (Below w.heap.size w w2):=hid (HBa.out.trans (hb2.mono HBa.out.size))
  clear hI2 hb2
  refine hK.out _ _ (fun _=>hS) ?_
  clear hK K
  refine bf 6 fun K hK=>?_
  go_simp
  refine hK.out _ _ (fun _=>hS) ?_
  clear hK K
  refine bf 7 fun K hK=>?_
  go_simp
  refine hK.out _ _ (fun _=>hS) ?_
  clear hK K
  refine bf 8 fun K hK=>?_
  go_simp
  refine hK.out _ _ (fun h=>absurd rfl h) ?_
  clear hK K
  refine aG zk ?_ _
  gi_wp2
  refine bodyPost_ret (v:=.tuple #[.slice E1 ng f1,.slice E2 ng f2,int i64 0]) (by simp[results,results18,go_sem]) rfl ⟨E1,f1,E2,f2,rfl,LL.out,HI2.out,HBb.out⟩
 have Rest:=hid rest
 clear rest hKr
 obtain⟨w60,h60⟩:∃w60,w60=w6.drew:=zE
 have Ny:∀w',Below w6.heap.size w6 w'→(w'.cell? ⟨w5.heap.size,0,none⟩=some (int i64 dY)∧w'.cell? ⟨w5.heap.size,1,none⟩=some (int i64 mO)∧w'.cell? ⟨w5.heap.size,2,none⟩=some (.slice gA ng gc)∧w'.cell? ⟨w5.heap.size,3,none⟩=some (.slice mA nm mc)∧w'.cell? ⟨w5.heap.size,4,none⟩=some (.slice cA nc cc)∧w'.cell? ⟨w5.heap.size+1,0,none⟩=some (int i64 (hf 0))∧w'.cell? ⟨w5.heap.size+1,1,none⟩=some (int i64 (hf 1))∧w'.cell? ⟨w5.heap.size+1,2,none⟩=some (int i64 (hf 2))∧w'.cell? ⟨w5.heap.size+1,3,none⟩=some (int i64 (hmm 0))∧w'.cell? ⟨w5.heap.size+1,4,none⟩=some (int i64 (hmm 1))∧w'.cell? ⟨w5.heap.size+1,5,none⟩=some (int i64 (hmm 2))∧w'.cell? ⟨w5.heap.size+1,6,none⟩=some (int i64 (hmm 3))∧w'.cell? ⟨w5.heap.size+1,7,none⟩=some (int i64 (hmm 4))∧w'.cell? ⟨w5.heap.size+1,8,none⟩=some (int i64 (hmm 5))∧w'.cell? ⟨w5.heap.size+1,9,none⟩=some (int i64 lies)):=fun w' hb=>
  ⟨(Kh.out.below hb Kh.out.lt).cell 0,(Kh.out.below hb Kh.out.lt).cell 1,(Kh.out.below hb Kh.out.lt).cell 2,(Kh.out.below hb Kh.out.lt).cell 3,(Kh.out.below hb Kh.out.lt).cell 4,(xu.out.below hb xu.out.lt).cell 0,(xu.out.below hb xu.out.lt).cell 1,(xu.out.below hb xu.out.lt).cell 2,(xu.out.below hb xu.out.lt).cell 3,(xu.out.below hb xu.out.lt).cell 4,(xu.out.below hb xu.out.lt).cell 5,(xu.out.below hb xu.out.lt).cell 6,(xu.out.below hb xu.out.lt).cell 7,(xu.out.below hb xu.out.lt).cell 8,(xu.out.below hb xu.out.lt).cell 9⟩
 have gq:=hid Ny
 clear Ny
 refine iY 15 (fun w'=>w'.cell? ⟨w5.heap.size,0,none⟩=some (int i64 dY)∧w'.cell? ⟨w5.heap.size,1,none⟩=some (int i64 mO)∧w'.cell? ⟨w5.heap.size,2,none⟩=some (.slice gA ng gc)∧w'.cell? ⟨w5.heap.size,3,none⟩=some (.slice mA nm mc)∧w'.cell? ⟨w5.heap.size,4,none⟩=some (.slice cA nc cc)∧w'.cell? ⟨w5.heap.size+1,0,none⟩=some (int i64 (hf 0))∧w'.cell? ⟨w5.heap.size+1,1,none⟩=some (int i64 (hf 1))∧w'.cell? ⟨w5.heap.size+1,2,none⟩=some (int i64 (hf 2))∧w'.cell? ⟨w5.heap.size+1,3,none⟩=some (int i64 (hmm 0))∧w'.cell? ⟨w5.heap.size+1,4,none⟩=some (int i64 (hmm 1))∧w'.cell? ⟨w5.heap.size+1,5,none⟩=some (int i64 (hmm 2))∧w'.cell? ⟨w5.heap.size+1,6,none⟩=some (int i64 (hmm 3))∧w'.cell? ⟨w5.heap.size+1,7,none⟩=some (int i64 (hmm 4))∧w'.cell? ⟨w5.heap.size+1,8,none⟩=some (int i64 (hmm 5))∧w'.cell? ⟨w5.heap.size+1,9,none⟩=some (int i64 lies)) zk ?_
 rw[← h60]
 have HB:Hid (Below w6.heap.size w6 w60):=hid (by rw[h60];exact dR zB)
 clear h60
 have hS:=gq.out w60 HB.out
 refine Cc (i:=0) (some 28) hS ?_
 simp only[Act.put,List.setIfInBounds_toArray,List.set]
 refine Cc (i:=1) (some 29) hS ?_
 simp only[Act.put,List.setIfInBounds_toArray,List.set]
 refine Cc (i:=2) (some 30) hS ?_
 simp only[Act.put,List.setIfInBounds_toArray,List.set]
 refine Cc (i:=3) (some 31) hS ?_
 simp only[Act.put,List.setIfInBounds_toArray,List.set]
 refine Cc (i:=4) (some 32) hS ?_
 simp only[Act.put,List.setIfInBounds_toArray,List.set]
 refine Cc (i:=5) (some 33) hS ?_
 simp only[Act.put,List.setIfInBounds_toArray,List.set]
 refine Cc (i:=6) (some 34) hS ?_
 simp only[Act.put,List.setIfInBounds_toArray,List.set]
 refine Cc (i:=8) (some 36) hS ?_
 simp only[Act.put,List.setIfInBounds_toArray,List.set]
 refine Cc (i:=9) (some 37) hS ?_
 simp only[Act.put,List.setIfInBounds_toArray,List.set]
 refine Cc (i:=10) (some 38) hS ?_
 simp only[Act.put,List.setIfInBounds_toArray,List.set]
 clear hS
 refine oJ (i:=7) (i':=12) (i2:=13) zk rfl rfl rfl (fun K hK=>?_) (fun K hK=>?_) (fun K hK=>?_)
 ·skip
  go_simp
  refine(HS.out _ (lK.out.trans (HB.out.mono lK.out.size))).mono ?_
  rintro e RD ⟨rfl,xc⟩
  have Xi:Hid (Below w6.heap.size w6 RD):=hid (HB.out.trans (xc.mono HB.out.size))
  clear xc
  refine hK.out _ _ (fun _=>gq.out _ Xi.out) ?_
  clear hK K
  refine oJ (i:=11) (i':=12) (i2:=13) zk rfl rfl rfl (fun K hK=>?_) (fun K hK=>?_) (fun K hK=>?_)
  ·skip
   go_simp
   refine(HL.out _ (lK.out.trans (Xi.out.mono lK.out.size))).mono ?_
   rintro e Xo ⟨rfl,xe⟩
   have gn:Hid (Below w6.heap.size w6 Xo):=hid (Xi.out.trans (xe.mono Xi.out.size))
   clear xe
   refine hK.out _ _ (fun _=>gq.out _ gn.out) ?_
   clear hK K
   refine aU (i:=12) (i':=13) zk rfl rfl (fun K hK=>?_) (fun K hK=>?_)
   ·skip
    go_simp
    obtain⟨rK,hw3⟩:∃x,x=Xo.alloc (.cells #[int i64 0,int i64 0,int i64 0] 88):=zE
    rw[← hw3]
    have FA:Hid (Below w6.heap.size w6 rK):=hid (by rw[hw3];exact gn.out.alloc gn.out.size _)
    have cd:Hid (Whole rK Xo.heap.size 88 #[int i64 0,int i64 0,int i64 0]):=hid (by rw[hw3];exact Whole.new _ _ _)
    have xN:w6.heap.size≤Xo.heap.size:=gn.out.size
    clear hw3
    refine hK.out _ _ (fun _=>gq.out _ FA.out) ?_
    clear hK K
    refine bf 13 fun K hK=>?_
    go_simp
    obtain⟨wy4,hw4⟩:∃x,x=rK.alloc (.cells #[int i64 0,int i64 0,int i64 0] 88):=zE
    rw[← hw4]
    have M':Hid (Below w6.heap.size w6 wy4):=hid (by rw[hw4];exact FA.out.alloc FA.out.size _)
    have sr:Hid (Whole wy4 rK.heap.size 88 #[int i64 0,int i64 0,int i64 0]):=hid (by rw[hw4];exact Whole.new _ _ _)
    have hge4:w6.heap.size≤rK.heap.size:=FA.out.size
    have aaL:=cd.out.lt
    have Sn:=hid (show Whole wy4 _ _ _ by rw[hw4];exact cd.out.alloc _)
    clear hw4
    refine hK.out _ _ (fun _=>gq.out _ M'.out) ?_
    clear hK K
    have c13:=Sn.out.cell
    have f13:=Sn.out.thaw
    refine bf 14 fun K hK=>?_
    go_simp
    refine hK.out _ _ (fun _=>gq.out _ (aC M'.out xN)) ?_
    clear hK K
    have g14:=hid ((sr.out.bS (x:=int i64 (S 0)) (y:=int i64 (S 1)) (z:=int i64 (S 2)) (B:=Xo.heap.size) zo))
    have c14:=g14.out.cell
    have f14:=g14.out.thaw
    clear c13 f13
    refine bf 15 fun K hK=>?_
    go_simp
    refine hK.out _ _ (fun h=>absurd rfl h) ?_
    clear hK K c14 f14
    refine aG zk ?_ _
    exact Rest.out Xo.heap.size rK.heap.size _ (aC (aC M'.out xN) hge4) (Sn.out.iR.bS zo) g14.out.iR
   ·skip
    go_simp
    obtain⟨px,Gc⟩:∃x,x=Xo.alloc (.cells #[int i64 0,int i64 0,int i64 0] 88):=zE
    rw[← Gc]
    have FG:Hid (Below w6.heap.size w6 px):=hid (by rw[Gc];exact gn.out.alloc gn.out.size _)
    have cm:Hid (Whole px Xo.heap.size 88 #[int i64 0,int i64 0,int i64 0]):=hid (by rw[Gc];exact Whole.new _ _ _)
    have SO:w6.heap.size≤Xo.heap.size:=gn.out.size
    clear Gc
    refine hK.out _ _ (fun _=>gq.out _ FG.out) ?_
    clear hK K
    refine bf 12 fun K hK=>?_
    go_simp
    obtain⟨wy6,wC⟩:∃x,x=px.alloc (.cells #[int i64 0,int i64 0,int i64 0] 88):=zE
    rw[← wC]
    have Nd:Hid (Below w6.heap.size w6 wy6):=hid (by rw[wC];exact FG.out.alloc FG.out.size _)
    have Sq:Hid (Whole wy6 px.heap.size 88 #[int i64 0,int i64 0,int i64 0]):=hid (by rw[wC];exact Whole.new _ _ _)
    have xT:w6.heap.size≤px.heap.size:=FG.out.size
    have aaM:=cm.out.lt
    have sA:=hid (show Whole wy6 _ _ _ by rw[wC];exact cm.out.alloc _)
    clear wC
    refine hK.out _ _ (fun _=>gq.out _ Nd.out) ?_
    clear hK K
    have c13:=Sq.out.cell
    have f13:=Sq.out.thaw
    refine bf 14 fun K hK=>?_
    go_simp
    refine hK.out _ _ (fun _=>gq.out _ (aC Nd.out xT)) ?_
    clear hK K
    have g14:=hid ((sA.out.bS (x:=int i64 (S 0)) (y:=int i64 (S 1)) (z:=int i64 (S 2)) (B:=px.heap.size) zo))
    have c14:=g14.out.cell
    have f14:=g14.out.thaw
    clear c13 f13
    refine bf 15 fun K hK=>?_
    go_simp
    refine hK.out _ _ (fun h=>absurd rfl h) ?_
    clear hK K c14 f14
    refine aG zk ?_ _
    exact Rest.out px.heap.size Xo.heap.size _ (aC (aC Nd.out xT) SO) (Sq.out.iR.bS zo) g14.out.iR
  ·skip
   go_simp
   obtain⟨rL,hw7⟩:∃x,x=RD.alloc (.cells #[int i64 0,int i64 0,int i64 0] 88):=zE
   rw[← hw7]
   have gC:Hid (Below w6.heap.size w6 rL):=hid (by rw[hw7];exact Xi.out.alloc Xi.out.size _)
   have MX:Hid (Whole rL RD.heap.size 88 #[int i64 0,int i64 0,int i64 0]):=hid (by rw[hw7];exact Whole.new _ _ _)
   have Yt:w6.heap.size≤RD.heap.size:=Xi.out.size
   clear hw7
   refine hK.out _ _ (fun _=>gq.out _ gC.out) ?_
   clear hK K
   refine aU (i:=11) (i':=13) zk rfl rfl (fun K hK=>?_) (fun K hK=>?_)
   ·skip
    go_simp
    refine(HL.out _ (lK.out.trans (gC.out.mono lK.out.size))).mono ?_
    rintro e EV ⟨rfl,k9⟩
    have FO:Hid (Below w6.heap.size w6 EV):=hid (gC.out.trans (k9.mono gC.out.size))
    have cg:=hid (MX.out.below k9 MX.out.lt)
    clear k9
    refine hK.out _ _ (fun _=>gq.out _ FO.out) ?_
    clear hK K
    refine bf 13 fun K hK=>?_
    go_simp
    obtain⟨wy9,As⟩:∃x,x=EV.alloc (.cells #[int i64 0,int i64 0,int i64 0] 88):=zE
    rw[← As]
    have Nm:Hid (Below w6.heap.size w6 wy9):=hid (by rw[As];exact FO.out.alloc FO.out.size _)
    have sB:Hid (Whole wy9 EV.heap.size 88 #[int i64 0,int i64 0,int i64 0]):=hid (by rw[As];exact Whole.new _ _ _)
    have SP:w6.heap.size≤EV.heap.size:=FO.out.size
    have aaN:=cg.out.lt
    have Sv:=hid (show Whole wy9 _ _ _ by rw[As];exact cg.out.alloc _)
    clear As
    refine hK.out _ _ (fun _=>gq.out _ Nm.out) ?_
    clear hK K
    have c13:=Sv.out.cell
    have f13:=Sv.out.thaw
    refine bf 14 fun K hK=>?_
    go_simp
    refine hK.out _ _ (fun _=>gq.out _ (aC Nm.out Yt)) ?_
    clear hK K
    have g14:=hid ((sB.out.bS (x:=int i64 (S 0)) (y:=int i64 (S 1)) (z:=int i64 (S 2)) (B:=RD.heap.size) zo))
    have c14:=g14.out.cell
    have f14:=g14.out.thaw
    clear c13 f13
    refine bf 15 fun K hK=>?_
    go_simp
    refine hK.out _ _ (fun h=>absurd rfl h) ?_
    clear hK K c14 f14
    refine aG zk ?_ _
    exact Rest.out RD.heap.size EV.heap.size _ (aC (aC Nm.out Yt) SP) (Sv.out.iR.bS zo) g14.out.iR
   ·skip
    go_simp
    obtain⟨pc,UA⟩:∃x,x=rL.alloc (.cells #[int i64 0,int i64 0,int i64 0] 88):=zE
    rw[← UA]
    have Xw:Hid (Below w6.heap.size w6 pc):=hid (by rw[UA];exact gC.out.alloc gC.out.size _)
    have Sw:Hid (Whole pc rL.heap.size 88 #[int i64 0,int i64 0,int i64 0]):=hid (by rw[UA];exact Whole.new _ _ _)
    have xx:w6.heap.size≤rL.heap.size:=gC.out.size
    have aai:=MX.out.lt
    have R8:=hid (show Whole pc _ _ _ by rw[UA];exact MX.out.alloc _)
    clear UA
    refine hK.out _ _ (fun _=>gq.out _ Xw.out) ?_
    clear hK K
    refine bf 11 fun K hK=>?_
    go_simp
    refine(HL.out _ (lK.out.trans (Xw.out.mono lK.out.size))).mono ?_
    rintro e ZS ⟨rfl,ND⟩
    have gj:Hid (Below w6.heap.size w6 ZS):=hid (Xw.out.trans (ND.mono Xw.out.size))
    have JK:=hid (R8.out.below ND R8.out.lt)
    have fl:=hid (Sw.out.below ND Sw.out.lt)
    clear ND
    refine hK.out _ _ (fun _=>gq.out _ gj.out) ?_
    clear hK K
    have c13:=JK.out.cell
    have f13:=JK.out.thaw
    refine bf 14 fun K hK=>?_
    go_simp
    refine hK.out _ _ (fun _=>gq.out _ (aC gj.out Yt)) ?_
    clear hK K
    have g14:=hid ((fl.out.bS (x:=int i64 (S 0)) (y:=int i64 (S 1)) (z:=int i64 (S 2)) (B:=RD.heap.size) zo))
    have c14:=g14.out.cell
    have f14:=g14.out.thaw
    clear c13 f13
    refine bf 15 fun K hK=>?_
    go_simp
    refine hK.out _ _ (fun h=>absurd rfl h) ?_
    clear hK K c14 f14
    refine aG zk ?_ _
    exact Rest.out RD.heap.size rL.heap.size _ (aC (aC gj.out Yt) xx) (JK.out.iR.bS zo) g14.out.iR
  ·skip
   go_simp
   obtain⟨MS,EP⟩:∃x,x=RD.alloc (.cells #[int i64 0,int i64 0,int i64 0] 88):=zE
   rw[← EP]
   have JZ:Hid (Below w6.heap.size w6 MS):=hid (by rw[EP];exact Xi.out.alloc Xi.out.size _)
   have Ed:Hid (Whole MS RD.heap.size 88 #[int i64 0,int i64 0,int i64 0]):=hid (by rw[EP];exact Whole.new _ _ _)
   have en:w6.heap.size≤RD.heap.size:=Xi.out.size
   clear EP
   refine hK.out _ _ (fun _=>gq.out _ JZ.out) ?_
   clear hK K
   refine aU (i:=11) (i':=12) zk rfl rfl (fun K hK=>?_) (fun K hK=>?_)
   ·skip
    go_simp
    refine(HL.out _ (lK.out.trans (JZ.out.mono lK.out.size))).mono ?_
    rintro e RF ⟨rfl,Uj⟩
    have Xx:Hid (Below w6.heap.size w6 RF):=hid (JZ.out.trans (Uj.mono JZ.out.size))
    have Sy:=hid (Ed.out.below Uj Ed.out.lt)
    clear Uj
    refine hK.out _ _ (fun _=>gq.out _ Xx.out) ?_
    clear hK K
    refine bf 12 fun K hK=>?_
    go_simp
    obtain⟨pd,UC⟩:∃x,x=RF.alloc (.cells #[int i64 0,int i64 0,int i64 0] 88):=zE
    rw[← UC]
    have gl:Hid (Below w6.heap.size w6 pd):=hid (by rw[UC];exact Xx.out.alloc Xx.out.size _)
    have JL:Hid (Whole pd RF.heap.size 88 #[int i64 0,int i64 0,int i64 0]):=hid (by rw[UC];exact Whole.new _ _ _)
    have eo:w6.heap.size≤RF.heap.size:=Xx.out.size
    have aaj:=Sy.out.lt
    have fo:=hid (show Whole pd _ _ _ by rw[UC];exact Sy.out.alloc _)
    clear UC
    refine hK.out _ _ (fun _=>gq.out _ gl.out) ?_
    clear hK K
    have c13:=JL.out.cell
    have f13:=JL.out.thaw
    refine bf 14 fun K hK=>?_
    go_simp
    refine hK.out _ _ (fun _=>gq.out _ (aC gl.out eo)) ?_
    clear hK K
    have g14:=hid ((fo.out.bS (x:=int i64 (S 0)) (y:=int i64 (S 1)) (z:=int i64 (S 2)) (B:=RF.heap.size) zo))
    have c14:=g14.out.cell
    have f14:=g14.out.thaw
    clear c13 f13
    refine bf 15 fun K hK=>?_
    go_simp
    refine hK.out _ _ (fun h=>absurd rfl h) ?_
    clear hK K c14 f14
    refine aG zk ?_ _
    exact Rest.out RF.heap.size RD.heap.size _ (aC (aC gl.out eo) en) (JL.out.iR.bS zo) g14.out.iR
   ·skip
    go_simp
    obtain⟨pf,UD⟩:∃x,x=MS.alloc (.cells #[int i64 0,int i64 0,int i64 0] 88):=zE
    rw[← UD]
    have Xy:Hid (Below w6.heap.size w6 pf):=hid (by rw[UD];exact JZ.out.alloc JZ.out.size _)
    have Sb:Hid (Whole pf MS.heap.size 88 #[int i64 0,int i64 0,int i64 0]):=hid (by rw[UD];exact Whole.new _ _ _)
    have et:w6.heap.size≤MS.heap.size:=JZ.out.size
    have aak:=Ed.out.lt
    have Sz:=hid (show Whole pf _ _ _ by rw[UD];exact Ed.out.alloc _)
    clear UD
    refine hK.out _ _ (fun _=>gq.out _ Xy.out) ?_
    clear hK K
    refine bf 11 fun K hK=>?_
    go_simp
    refine(HL.out _ (lK.out.trans (Xy.out.mono lK.out.size))).mono ?_
    rintro e Z' ⟨rfl,NG⟩
    have gm:Hid (Below w6.heap.size w6 Z'):=hid (Xy.out.trans (NG.mono Xy.out.size))
    have JM:=hid (Sb.out.below NG Sb.out.lt)
    have fp:=hid (Sz.out.below NG Sz.out.lt)
    clear NG
    refine hK.out _ _ (fun _=>gq.out _ gm.out) ?_
    clear hK K
    have c13:=JM.out.cell
    have f13:=JM.out.thaw
    refine bf 14 fun K hK=>?_
    go_simp
    refine hK.out _ _ (fun _=>gq.out _ (aC gm.out et)) ?_
    clear hK K
    have g14:=hid ((fp.out.bS (x:=int i64 (S 0)) (y:=int i64 (S 1)) (z:=int i64 (S 2)) (B:=MS.heap.size) zo))
    have c14:=g14.out.cell
    have f14:=g14.out.thaw
    clear c13 f13
    refine bf 15 fun K hK=>?_
    go_simp
    refine hK.out _ _ (fun h=>absurd rfl h) ?_
    clear hK K c14 f14
    refine aG zk ?_ _
    exact Rest.out MS.heap.size RD.heap.size _ (aC (aC gm.out et) en) (JM.out.iR.bS zo) g14.out.iR
 ·skip
  go_simp
  obtain⟨RG,Yx⟩:∃x,x=w60.alloc (.cells #[int i64 0,int i64 0,int i64 0] 88):=zE
  rw[← Yx]
  have J5:Hid (Below w6.heap.size w6 RG):=hid (by rw[Yx];exact HB.out.alloc HB.out.size _)
  have Eb:Hid (Whole RG w60.heap.size 88 #[int i64 0,int i64 0,int i64 0]):=hid (by rw[Yx];exact Whole.new _ _ _)
  have CY:w6.heap.size≤w60.heap.size:=HB.out.size
  clear Yx
  refine hK.out _ _ (fun _=>gq.out _ J5.out) ?_
  clear hK K
  refine aU (i:=7) (i':=13) zk rfl rfl (fun K hK=>?_) (fun K hK=>?_)
  ·skip
   go_simp
   refine(HS.out _ (lK.out.trans (J5.out.mono lK.out.size))).mono ?_
   rintro e Xa ⟨rfl,Uk⟩
   have J8:Hid (Below w6.heap.size w6 Xa):=hid (J5.out.trans (Uk.mono J5.out.size))
   have Ec:=hid (Eb.out.below Uk Eb.out.lt)
   clear Uk
   refine hK.out _ _ (fun _=>gq.out _ J8.out) ?_
   clear hK K
   refine aU (i:=11) (i':=13) zk rfl rfl (fun K hK=>?_) (fun K hK=>?_)
   ·skip
    go_simp
    refine(HL.out _ (lK.out.trans (J8.out.mono lK.out.size))).mono ?_
    rintro e Xb ⟨rfl,Ul⟩
    have Xz:Hid (Below w6.heap.size w6 Xb):=hid (J8.out.trans (Ul.mono J8.out.size))
    have Sc:=hid (Ec.out.below Ul Ec.out.lt)
    clear Ul
    refine hK.out _ _ (fun _=>gq.out _ Xz.out) ?_
    clear hK K
    refine bf 13 fun K hK=>?_
    go_simp
    obtain⟨pg,UE⟩:∃x,x=Xb.alloc (.cells #[int i64 0,int i64 0,int i64 0] 88):=zE
    rw[← UE]
    have gp:Hid (Below w6.heap.size w6 pg):=hid (by rw[UE];exact Xz.out.alloc Xz.out.size _)
    have ft:Hid (Whole pg Xb.heap.size 88 #[int i64 0,int i64 0,int i64 0]):=hid (by rw[UE];exact Whole.new _ _ _)
    have xy:w6.heap.size≤Xb.heap.size:=Xz.out.size
    have aal:=Sc.out.lt
    have JO:=hid (show Whole pg _ _ _ by rw[UE];exact Sc.out.alloc _)
    clear UE
    refine hK.out _ _ (fun _=>gq.out _ gp.out) ?_
    clear hK K
    have c13:=JO.out.cell
    have f13:=JO.out.thaw
    refine bf 14 fun K hK=>?_
    go_simp
    refine hK.out _ _ (fun _=>gq.out _ (aC gp.out CY)) ?_
    clear hK K
    have g14:=hid ((ft.out.bS (x:=int i64 (S 0)) (y:=int i64 (S 1)) (z:=int i64 (S 2)) (B:=w60.heap.size) zo))
    have c14:=g14.out.cell
    have f14:=g14.out.thaw
    clear c13 f13
    refine bf 15 fun K hK=>?_
    go_simp
    refine hK.out _ _ (fun h=>absurd rfl h) ?_
    clear hK K c14 f14
    refine aG zk ?_ _
    exact Rest.out w60.heap.size Xb.heap.size _ (aC (aC gp.out CY) xy) (JO.out.iR.bS zo) g14.out.iR
   ·skip
    go_simp
    obtain⟨pj,P7⟩:∃x,x=Xa.alloc (.cells #[int i64 0,int i64 0,int i64 0] 88):=zE
    rw[← P7]
    have XA:Hid (Below w6.heap.size w6 pj):=hid (by rw[P7];exact J8.out.alloc J8.out.size _)
    have SA:Hid (Whole pj Xa.heap.size 88 #[int i64 0,int i64 0,int i64 0]):=hid (by rw[P7];exact Whole.new _ _ _)
    have xz:w6.heap.size≤Xa.heap.size:=J8.out.size
    have aam:=Ec.out.lt
    have Sd:=hid (show Whole pj _ _ _ by rw[P7];exact Ec.out.alloc _)
    clear P7
    refine hK.out _ _ (fun _=>gq.out _ XA.out) ?_
    clear hK K
    refine bf 11 fun K hK=>?_
    go_simp
    refine(HL.out _ (lK.out.trans (XA.out.mono lK.out.size))).mono ?_
    rintro e aac ⟨rfl,NH⟩
    have gr:Hid (Below w6.heap.size w6 aac):=hid (XA.out.trans (NH.mono XA.out.size))
    have JQ:=hid (Sd.out.below NH Sd.out.lt)
    have fv:=hid (SA.out.below NH SA.out.lt)
    clear NH
    refine hK.out _ _ (fun _=>gq.out _ gr.out) ?_
    clear hK K
    have c13:=JQ.out.cell
    have f13:=JQ.out.thaw
    refine bf 14 fun K hK=>?_
    go_simp
    refine hK.out _ _ (fun _=>gq.out _ (aC gr.out CY)) ?_
    clear hK K
    have g14:=hid ((fv.out.bS (x:=int i64 (S 0)) (y:=int i64 (S 1)) (z:=int i64 (S 2)) (B:=w60.heap.size) zo))
    have c14:=g14.out.cell
    have f14:=g14.out.thaw
    clear c13 f13
    refine bf 15 fun K hK=>?_
    go_simp
    refine hK.out _ _ (fun h=>absurd rfl h) ?_
    clear hK K c14 f14
    refine aG zk ?_ _
    exact Rest.out w60.heap.size Xa.heap.size _ (aC (aC gr.out CY) xz) (JQ.out.iR.bS zo) g14.out.iR
  ·skip
   go_simp
   obtain⟨pn,UF⟩:∃x,x=RG.alloc (.cells #[int i64 0,int i64 0,int i64 0] 88):=zE
   rw[← UF]
   have XC:Hid (Below w6.heap.size w6 pn):=hid (by rw[UF];exact J5.out.alloc J5.out.size _)
   have SB:Hid (Whole pn RG.heap.size 88 #[int i64 0,int i64 0,int i64 0]):=hid (by rw[UF];exact Whole.new _ _ _)
   have xF:w6.heap.size≤RG.heap.size:=J5.out.size
   have aan:=Eb.out.lt
   have Sg:=hid (show Whole pn _ _ _ by rw[UF];exact Eb.out.alloc _)
   clear UF
   refine hK.out _ _ (fun _=>gq.out _ XC.out) ?_
   clear hK K
   refine bf 7 fun K hK=>?_
   go_simp
   refine(HS.out _ (lK.out.trans (XC.out.mono lK.out.size))).mono ?_
   rintro e aad ⟨rfl,NI⟩
   have XD:Hid (Below w6.heap.size w6 aad):=hid (XC.out.trans (NI.mono XC.out.size))
   have Si:=hid (Sg.out.below NI Sg.out.lt)
   have SC:=hid (SB.out.below NI SB.out.lt)
   clear NI
   refine hK.out _ _ (fun _=>gq.out _ XD.out) ?_
   clear hK K
   refine bf 11 fun K hK=>?_
   go_simp
   refine(HL.out _ (lK.out.trans (XD.out.mono lK.out.size))).mono ?_
   rintro e aae ⟨rfl,NJ⟩
   have gv:Hid (Below w6.heap.size w6 aae):=hid (XD.out.trans (NJ.mono XD.out.size))
   have JR:=hid (Si.out.below NJ Si.out.lt)
   have fw:=hid (SC.out.below NJ SC.out.lt)
   clear NJ
   refine hK.out _ _ (fun _=>gq.out _ gv.out) ?_
   clear hK K
   have c13:=JR.out.cell
   have f13:=JR.out.thaw
   refine bf 14 fun K hK=>?_
   go_simp
   refine hK.out _ _ (fun _=>gq.out _ (aC gv.out CY)) ?_
   clear hK K
   have g14:=hid ((fw.out.bS (x:=int i64 (S 0)) (y:=int i64 (S 1)) (z:=int i64 (S 2)) (B:=w60.heap.size) zo))
   have c14:=g14.out.cell
   have f14:=g14.out.thaw
   clear c13 f13
   refine bf 15 fun K hK=>?_
   go_simp
   refine hK.out _ _ (fun h=>absurd rfl h) ?_
   clear hK K c14 f14
   refine aG zk ?_ _
   exact Rest.out w60.heap.size RG.heap.size _ (aC (aC gv.out CY) xF) (JR.out.iR.bS zo) g14.out.iR
 ·skip
  go_simp
  obtain⟨MU,Yy⟩:∃x,x=w60.alloc (.cells #[int i64 0,int i64 0,int i64 0] 88):=zE
  rw[← Yy]
  have Ka:Hid (Below w6.heap.size w6 MU):=hid (by rw[Yy];exact HB.out.alloc HB.out.size _)
  have Ee:Hid (Whole MU w60.heap.size 88 #[int i64 0,int i64 0,int i64 0]):=hid (by rw[Yy];exact Whole.new _ _ _)
  have Us:w6.heap.size≤w60.heap.size:=HB.out.size
  clear Yy
  refine hK.out _ _ (fun _=>gq.out _ Ka.out) ?_
  clear hK K
  refine aU (i:=7) (i':=12) zk rfl rfl (fun K hK=>?_) (fun K hK=>?_)
  ·skip
   go_simp
   refine(HS.out _ (lK.out.trans (Ka.out.mono lK.out.size))).mono ?_
   rintro e RH ⟨rfl,Um⟩
   have Kc:Hid (Below w6.heap.size w6 RH):=hid (Ka.out.trans (Um.mono Ka.out.size))
   have Ef:=hid (Ee.out.below Um Ee.out.lt)
   clear Um
   refine hK.out _ _ (fun _=>gq.out _ Kc.out) ?_
   clear hK K
   refine aU (i:=11) (i':=12) zk rfl rfl (fun K hK=>?_) (fun K hK=>?_)
   ·skip
    go_simp
    refine(HL.out _ (lK.out.trans (Kc.out.mono lK.out.size))).mono ?_
    rintro e RI ⟨rfl,Un⟩
    have XE:Hid (Below w6.heap.size w6 RI):=hid (Kc.out.trans (Un.mono Kc.out.size))
    have SE:=hid (Ef.out.below Un Ef.out.lt)
    clear Un
    refine hK.out _ _ (fun _=>gq.out _ XE.out) ?_
    clear hK K
    refine bf 12 fun K hK=>?_
    go_simp
    obtain⟨pr,UG⟩:∃x,x=RI.alloc (.cells #[int i64 0,int i64 0,int i64 0] 88):=zE
    rw[← UG]
    have gw:Hid (Below w6.heap.size w6 pr):=hid (by rw[UG];exact XE.out.alloc XE.out.size _)
    have JU:Hid (Whole pr RI.heap.size 88 #[int i64 0,int i64 0,int i64 0]):=hid (by rw[UG];exact Whole.new _ _ _)
    have ez:w6.heap.size≤RI.heap.size:=XE.out.size
    have aao:=SE.out.lt
    have fx:=hid (show Whole pr _ _ _ by rw[UG];exact SE.out.alloc _)
    clear UG
    refine hK.out _ _ (fun _=>gq.out _ gw.out) ?_
    clear hK K
    have c13:=JU.out.cell
    have f13:=JU.out.thaw
    refine bf 14 fun K hK=>?_
    go_simp
    refine hK.out _ _ (fun _=>gq.out _ (aC gw.out ez)) ?_
    clear hK K
    have g14:=hid ((fx.out.bS (x:=int i64 (S 0)) (y:=int i64 (S 1)) (z:=int i64 (S 2)) (B:=RI.heap.size) zo))
    have c14:=g14.out.cell
    have f14:=g14.out.thaw
    clear c13 f13
    refine bf 15 fun K hK=>?_
    go_simp
    refine hK.out _ _ (fun h=>absurd rfl h) ?_
    clear hK K c14 f14
    refine aG zk ?_ _
    exact Rest.out RI.heap.size w60.heap.size _ (aC (aC gw.out ez) Us) (JU.out.iR.bS zo) g14.out.iR
   ·skip
    go_simp
    obtain⟨pv,UH⟩:∃x,x=RH.alloc (.cells #[int i64 0,int i64 0,int i64 0] 88):=zE
    rw[← UH]
    have XF:Hid (Below w6.heap.size w6 pv):=hid (by rw[UH];exact Kc.out.alloc Kc.out.size _)
    have Sj:Hid (Whole pv RH.heap.size 88 #[int i64 0,int i64 0,int i64 0]):=hid (by rw[UH];exact Whole.new _ _ _)
    have eA:w6.heap.size≤RH.heap.size:=Kc.out.size
    have aap:=Ef.out.lt
    have SH:=hid (show Whole pv _ _ _ by rw[UH];exact Ef.out.alloc _)
    clear UH
    refine hK.out _ _ (fun _=>gq.out _ XF.out) ?_
    clear hK K
    refine bf 11 fun K hK=>?_
    go_simp
    refine(HL.out _ (lK.out.trans (XF.out.mono lK.out.size))).mono ?_
    rintro e aaf ⟨rfl,NK⟩
    have gx:Hid (Below w6.heap.size w6 aaf):=hid (XF.out.trans (NK.mono XF.out.size))
    have JV:=hid (Sj.out.below NK Sj.out.lt)
    have fy:=hid (SH.out.below NK SH.out.lt)
    clear NK
    refine hK.out _ _ (fun _=>gq.out _ gx.out) ?_
    clear hK K
    have c13:=JV.out.cell
    have f13:=JV.out.thaw
    refine bf 14 fun K hK=>?_
    go_simp
    refine hK.out _ _ (fun _=>gq.out _ (aC gx.out eA)) ?_
    clear hK K
    have g14:=hid ((fy.out.bS (x:=int i64 (S 0)) (y:=int i64 (S 1)) (z:=int i64 (S 2)) (B:=RH.heap.size) zo))
    have c14:=g14.out.cell
    have f14:=g14.out.thaw
    clear c13 f13
    refine bf 15 fun K hK=>?_
    go_simp
    refine hK.out _ _ (fun h=>absurd rfl h) ?_
    clear hK K c14 f14
    refine aG zk ?_ _
    exact Rest.out RH.heap.size w60.heap.size _ (aC (aC gx.out eA) Us) (JV.out.iR.bS zo) g14.out.iR
  ·skip
   go_simp
   obtain⟨pw,hw32⟩:∃x,x=MU.alloc (.cells #[int i64 0,int i64 0,int i64 0] 88):=zE
   rw[← hw32]
   have XG:Hid (Below w6.heap.size w6 pw):=hid (by rw[hw32];exact Ka.out.alloc Ka.out.size _)
   have Sl:Hid (Whole pw MU.heap.size 88 #[int i64 0,int i64 0,int i64 0]):=hid (by rw[hw32];exact Whole.new _ _ _)
   have eC:w6.heap.size≤MU.heap.size:=Ka.out.size
   have hne32:=Ee.out.lt
   have SI:=hid (show Whole pw _ _ _ by rw[hw32];exact Ee.out.alloc _)
   clear hw32
   refine hK.out _ _ (fun _=>gq.out _ XG.out) ?_
   clear hK K
   refine bf 7 fun K hK=>?_
   go_simp
   refine(HS.out _ (lK.out.trans (XG.out.mono lK.out.size))).mono ?_
   rintro e aag ⟨rfl,NM⟩
   have XH:Hid (Below w6.heap.size w6 aag):=hid (XG.out.trans (NM.mono XG.out.size))
   have Sm:=hid (Sl.out.below NM Sl.out.lt)
   have SK:=hid (SI.out.below NM SI.out.lt)
   clear NM
   refine hK.out _ _ (fun _=>gq.out _ XH.out) ?_
   clear hK K
   refine bf 11 fun K hK=>?_
   go_simp
   refine(HL.out _ (lK.out.trans (XH.out.mono lK.out.size))).mono ?_
   rintro e aah ⟨rfl,NP⟩
   have gz:Hid (Below w6.heap.size w6 aah):=hid (XH.out.trans (NP.mono XH.out.size))
   have JW:=hid (Sm.out.below NP Sm.out.lt)
   have fz:=hid (SK.out.below NP SK.out.lt)
   clear NP
   refine hK.out _ _ (fun _=>gq.out _ gz.out) ?_
   clear hK K
   have c13:=JW.out.cell
   have f13:=JW.out.thaw
   refine bf 14 fun K hK=>?_
   go_simp
   refine hK.out _ _ (fun _=>gq.out _ (aC gz.out eC)) ?_
   clear hK K
   have g14:=hid ((fz.out.bS (x:=int i64 (S 0)) (y:=int i64 (S 1)) (z:=int i64 (S 2)) (B:=MU.heap.size) zo))
   have c14:=g14.out.cell
   have f14:=g14.out.thaw
   clear c13 f13
   refine bf 15 fun K hK=>?_
   go_simp
   refine hK.out _ _ (fun h=>absurd rfl h) ?_
   clear hK K c14 f14
   refine aG zk ?_ _
   exact Rest.out MU.heap.size w60.heap.size _ (aC (aC gz.out eC) Us) (JW.out.iR.bS zo) g14.out.iR
end
section
open Go Go.Conc Go.RowKit Go.Maps Go.Sort Go.Shelf
section
variable{P:Program}{ops:Array Oper}{Q:Exit→Act→World→Prop}{a:Act}{w:World}{id:Nat}{o:Oper}{rest:List Nat}{c cap s r:Nat}{buf:Array Value}{z:Value}{closed:Bool}{t:TypeId}{x:Operand}
theorem yP(hop:o.op=.recv t x true)(ρ:Operand→Value)(w:World):o.about P w ρ=none:=by unfold Oper.about;rw[hop]
theorem yQ(hop:o.op=.recv t x true)(ro:Option Nat)(ρ:Operand→Value):o.semAt ro ρ=execOp ρ o:=Oper.semAt_eq _ _ _ (by rw[hop];intro c h;cases h)
theorem Cj(ho:ops[0]? =some o)(hop:o.op=.recv t x true)(hw:Region.wanted o (yielded ops a.tmps)=true)(hl:List.range ops.size=0 :: rest)(hex:(execOp a.eval o).run P w=.ok (.comm #[rcase c z] true (.recv true)) w)(hc:w.heap[c]? =some (.chan cap buf closed s r false))(hsome:0<buf.size)
 (h:wpOpsIn FF 0 P ops Q rest (a.put o.dst (.tuple #[buf.getD 0 undef,.bool true])) (w.setChan c cap (buf.extract 1 buf.size) closed s (r+1) false)):(Code.region id ops false).wpIn FF 0 P Q a w:=fun b k cs hro hb hr=>by
 obtain⟨e,a',w',hq,harr⟩:=wp_opsIn rest _ _ h b k cs hro hb hr
 refine⟨e,a',w',hq,.of_steps (.head (fenced_calm (n:=0) hb (bN _) rfl) stepR_region ?_) harr⟩
 rw[hl]
 have hfo:Machine.fenced P FF (lone (b.atR a (.inRegion ops (0 :: rest) :: k)) cs w):=fenced_oper (n:=0) hb (bN _) ho (fun f hf=>by rw[yP hop] at hf;cases hf)
 refine .one hfo ?_
 have hg:=stepGR_op (P:=P) (b:=b) (k:=k) (cs:=cs) (w:=w) (rest:=rest) ho hw
 rw[yQ hop] at hg
 have hcm:∃es,stepG P true (G (b.atR a (.inRegion ops (0 :: rest) :: k)) cs) w=.comm (G (b.atR a (.inRegion ops (0 :: rest) :: k)) cs) #[rcase c z] true (.recv true) w es:=by
  have hg2:=hg
  simp only[stepG.apply,Sem.runT_eq,hex] at hg2
  exact⟨_,hg2⟩
 obtain⟨es,hcm⟩:=hcm
 have:=step_lone_recv_buf true hcm hc hsome
 rw[Frame.finish_atR,ho] at this
 exact this
theorem Ba(ho:ops[0]? =some o)(hop:o.op=.recv t x true)(hw:Region.wanted o (yielded ops a.tmps)=true)(hl:List.range ops.size=0 :: rest)(hex:(execOp a.eval o).run P w=.ok (.comm #[rcase c z] true (.recv true)) w)(hc:w.heap[c]? =some (.chan cap #[] true s r false))
 (h:wpOpsIn FF 0 P ops Q rest (a.put o.dst (.tuple #[z,.bool false])) w):(Code.region id ops false).wpIn FF 0 P Q a w:=fun b k cs hro hb hr=>by
 obtain⟨e,a',w',hq,harr⟩:=wp_opsIn rest _ _ h b k cs hro hb hr
 refine⟨e,a',w',hq,.of_steps (.head (fenced_calm (n:=0) hb (bN _) rfl) stepR_region ?_) harr⟩
 rw[hl]
 have hfo:Machine.fenced P FF (lone (b.atR a (.inRegion ops (0 :: rest) :: k)) cs w):=fenced_oper (n:=0) hb (bN _) ho (fun f hf=>by rw[yP hop] at hf;cases hf)
 refine .one hfo ?_
 have hg:=stepGR_op (P:=P) (b:=b) (k:=k) (cs:=cs) (w:=w) (rest:=rest) ho hw
 rw[yQ hop] at hg
 have hcm:∃es,stepG P true (G (b.atR a (.inRegion ops (0 :: rest) :: k)) cs) w=.comm (G (b.atR a (.inRegion ops (0 :: rest) :: k)) cs) #[rcase c z] true (.recv true) w es:=by
  have hg2:=hg
  simp only[stepG.apply,Sem.runT_eq,hex] at hg2
  exact⟨_,hg2⟩
 obtain⟨es,hcm⟩:=hcm
 have:=step_lone_recv_shut true hcm hc
 rw[Frame.finish_atR,ho] at this
 exact this
end
theorem na(base:Nat)(v:Value)(ss:List Int)(W:World)(h0:0<ss.length)(hlt:ss.length<2 ^ 40)(h:W.ownsRow base 3 1 v ss.length (ss.map encZ)):CallsIn FF 0 prog 122 #[v] W fun e w'=>e=.returned (.tuple #[])∧w'.ownsRow base 3 1 v ss.length ((ss.mergeSort (fun x y=>decide (x≤y))).map encZ)∧W.grownBy w' v.ownBlock:=by
 rcases h.2 with⟨rfl,hz⟩|⟨gb,cap,cur,rfl,hbase,hgb,r1,r2,r3,r4⟩
 ·omega
 ·have hH:Holds encZ W gb 0 ss.toArray:=holds_of_block_i hgb (by simpa using r4)
  have hgl:gb<W.heap.size:=(Array.getElem?_eq_some_iff.1 hgb).1
  have cS:=(Jh 0).1 gb 0 cap ss W hH hgl zo
  refine CallsIn.mono cS ?_
  rintro e w' ⟨rfl,nn,os,rfl⟩
  exact⟨rfl,ownsRow_sorted_i zs hbase hgb r1 r2 r3,grownBy_sorted_i _⟩
end
section
open Go Go.Conc Go.ConcN Go.cu Go.Conc.Lib Go.aP Go.RowKit Go.Maps
attribute [local go_sem] Oper.semAt_some
variable[Inhabited aV]
theorem Oj{ρ:Operand→Value}{o:Oper}{x:Operand}{c:Nat}(hop:o.op=.recv 170 x true)(hx:ρ x=.chan (some c))(w:World):(execOp ρ o).run prog w=.ok (.comm #[rcase c (int i64 0)] true (.recv true)) w:=by
 have hz:=nG w
 unfold execOp
 rw[hop]
 simp[Sem.run_bind,run_underlying underlying170,hz,hx,Result.andThen,rcase]
def r13:Array Oper:=#[{dst:=some 22,op:=.recv 170 (.tmp 21) true,type:=0,pos:=Cs,after:=#[],guard:=none },{dst:=some 23,op:=.extract (.tmp 22) 1,type:=4,pos:=Cs,after:=#[{on:=0,ground:=.data }],guard:=none }]
section
variable{Q:Exit→Act→World→Prop}{a:Act}{w:World}{c cap s r:Nat}{buf:Array Value}{closed:Bool}
theorem dc{v:Value}{b:Bool}(hs:23<a.tmps.size)(h:Q .normal ((a.put (some 22) (.tuple #[v,.bool b])).put (some 23) (.bool b)) w):wpOpsIn FF 0 prog r13 Q [1] (a.put (some 22) (.tuple #[v,.bool b])) w:=by
 have h22:22<a.tmps.size:=zo
 simp only[wpOpsIn,r13]
 simp[Region.wanted,Oper.wpIn,Oper.about,Oper.semAt,execOp,h22,Instr.extract,go_sem,Oper.uponIn]
 exact h
theorem yN(hs:a.tmps.size=32)(hx:a.eval (.tmp 21)=.chan (some c))(hc:w.heap[c]? =some (.chan cap buf closed s r false))(hsome:0<buf.size)
 (h:Q .normal ((a.put (some 22) (.tuple #[buf.getD 0 undef,.bool true])).put (some 23) (.bool true)) (w.setChan c cap (buf.extract 1 buf.size) closed s (r+1) false)):(Code.region 13 r13 false).wpIn FF 0 prog Q a w:=
 Cj (o:=r13[0]) rfl rfl rfl (rest:=[1]) rfl (Oj rfl hx w) hc hsome (dc zo h)
theorem Ja(hs:a.tmps.size=32)(hx:a.eval (.tmp 21)=.chan (some c))(hc:w.heap[c]? =some (.chan cap #[] true s r false))
 (h:Q .normal ((a.put (some 22) (.tuple #[int i64 0,.bool false])).put (some 23) (.bool false)) w):(Code.region 13 r13 false).wpIn FF 0 prog Q a w:=
 Ba (o:=r13[0]) rfl rfl rfl (rest:=[1]) rfl (Oj rfl hx w) hc (dc zo h)
end
theorem VP{ss:List Int}(h:ss.Perm [2,3]):(ss.mergeSort fun x y=>decide (x≤y))=[2,3]:=by
 have h1:(ss.mergeSort fun x y=>decide (x≤y)).Perm [2,3]:=(List.mergeSort_perm _ _).trans h
 have h2:(ss.mergeSort fun x y=>decide (x≤y)).Pairwise fun x y=>decide (x≤y)=true:=List.pairwise_mergeSort (fun a b c=>by simp only[decide_eq_true_eq];omega) (fun a b=>by simp only[Bool.or_eq_true,decide_eq_true_eq];omega) ss
 have h3:([2,3]:List Int).Pairwise fun x y=>decide (x≤y)=true:=zD
 exact h1.eq_of_pairwise (fun a b _ _ h1 h2=>by simp only[decide_eq_true_eq] at h1 h2;omega) h2 h3
theorem Vv{l:List Value}(h:l.Perm [int i64 2,int i64 3]):∃a b:Int,l=[int i64 a,int i64 b]∧[a,b].mergeSort (fun x y=>decide (x≤y))=[2,3]:=by
 have hl:=h.length_eq
 match l,hl with
 | [x,y],_=>
   have hn:[x,y].Nodup:=h.nodup_iff.2 zs
   have hx:x∈[int i64 2,int i64 3]:=h.mem_iff.1 zs
   have hy:y∈[int i64 2,int i64 3]:=h.mem_iff.1 zs
   simp at hx hy hn
   rcases hx with rfl|rfl <;> rcases hy with rfl|rfl
   ·exact absurd rfl hn
   ·exact⟨2,3,rfl,VP (.refl _)⟩
   ·exact⟨3,2,rfl,VP (.swap _ _ _)⟩
   ·exact absurd rfl hn
theorem vL(w:World)(c cap:Nat)(buf:Array Value)(cl:Bool)(s r:Nat)(tm:Bool)(i:Nat)(h:i≠c):(w.setChan c cap buf cl s r tm).heap[i]? =w.heap[i]?:=by
 show(Array.setIfInBounds w.heap _ _)[i]? =_
 rw[Array.getElem?_setIfInBounds_ne (fun e=>h e.symm)]
theorem mZ(w:World)(c cap:Nat)(buf:Array Value)(cl:Bool)(s r:Nat)(tm:Bool):(w.setChan c cap buf cl s r tm).heap.size=w.heap.size:=by simp[World.setChan]
theorem qy{w:World}{n c:Nat}(cap:Nat)(buf:Array Value)(cl:Bool)(s r:Nat)(tm:Bool)(hn:n≤c):Below n w (w.setChan c cap buf cl s r tm):=
 ⟨rfl,rfl,rfl,by rw[mZ];exact zL,fun b hb=>vL _ _ _ _ _ _ _ _ _ zo⟩
def xq(w:World)(x:Value)(w':World):Prop:=(∃τ,Below w.heap.size (on w τ) w')∧w'.ownsRow w.heap.size 3 1 x 2 [int i64 2,int i64 3]
theorem MJ(cb:Nat)(bit:Nat→Bool)(w:World)(hbit:(List.range 4).filter bit=[2,3])(x7 x14 x15 x16 x17 x18:Value)(v:World)(hb:Behind 4 cb w.heap.size bit w v)(σ:Tape):
 mo.wpIn FF 0 prog (bodyPost prog Tryz.f99 (Fq (xq w))) (Act.put ⟨Rw 4 (fG cb) w.heap.size 4 x7 x14 x15 x16 x17 x18,[]⟩ (some 19) (.tuple #[])) (on v σ):=by
 obtain⟨hsz,hold,jq,⟨buf,s,q,hch,hperm⟩,Il,hos,hout⟩:=hb
 rw[hbit] at hperm
 obtain⟨Qp,hQp⟩:∃Qp,Qp=bodyPost prog Tryz.f99 (Fq (xq w)):=zE
 rw[← hQp]
 simp only[mo,WJ,Tryz.f99,Rw,Act.put,List.setIfInBounds_toArray,List.set_cons_succ,List.set_cons_zero,fG,pt]
 have cN2:(on v σ).cell? ⟨w.heap.size+2,0,none⟩=some (.chan (some (w.heap.size+1))):=by
  unfold World.cell?
  simp[on,Il]
 have hcl:=fun ats ty=>run_close_open (P:=prog) (w:=on v σ) ats ty hch
 obtain⟨W1,hW1⟩:∃W1,W1=(on v σ).setChan (w.heap.size+1) 4 buf true s q false:=zE
 have So:∀ats ty,(Builtin.close_ ats ty #[.chan (some (w.heap.size+1))]).run prog (on v σ)=.ok (.tuple #[]) W1:=fun ats ty=>by rw[hW1];exact hcl ats ty
 have c1:W1.heap[w.heap.size+1]? =some (.chan 4 buf true s q false):=by rw[hW1];exact heap_setChan _ _ _ _ _ _ _ _ (by show w.heap.size+1<v.heap.size;omega)
 have oth:∀i,i≠w.heap.size+1→W1.heap[i]? =v.heap[i]?:=fun i hi=>by
  rw[hW1]
  show(Array.setIfInBounds v.heap _ _)[i]? =_
  rw[Array.getElem?_setIfInBounds_ne (fun e=>hi e.symm)]
 have hs1:W1.heap.size=v.heap.size:=by rw[hW1];simp[World.setChan,on]
 have B1:Below w.heap.size (on w σ) W1:=⟨by rw[hW1];exact hos,by rw[hW1];rfl,by rw[hW1];exact hout,by rw[hs1];show w.heap.size≤_;omega,fun b hb=>(oth b zo).trans (hold b hb)⟩
 have cM2:W1.cell? ⟨w.heap.size+2,0,none⟩=some (.chan (some (w.heap.size+1))):=by
  unfold World.cell?
  simp[oth (w.heap.size+2) zo,Il]
 clear hcl hW1
 obtain⟨x0,y0,hbuf,hsrt⟩:=Vv hperm
 have xj:buf=#[int i64 x0,int i64 y0]:=by rw[← Array.toList_inj];exact hbuf
 subst xj
 obtain⟨i0,hi,hz0,hz1,hz2⟩:=info_parts info3
 have hi0:=hid hi
 clear hi hbuf hperm
 gi_wp2
 refine wpIn_loop_rounds 3 ?_
 rw[roundsIn_succ]
 refine wpIn_seq ?_
 refine yN rfl rfl c1 zs ?_
 obtain⟨W2,hW2⟩:∃W2,W2=W1.setChan (w.heap.size+1) 4 #[int i64 y0] true s (q+1) false:=zE
 have c2:W2.heap[w.heap.size+1]? =some (.chan 4 #[int i64 y0] true s (q+1) false):=by rw[hW2];exact heap_setChan _ _ _ _ _ _ _ _ zo
 have hs2:W2.heap.size=W1.heap.size:=by rw[hW2];exact mZ _ _ _ _ _ _ _ _
 have B2:Hid (Below w.heap.size (on w σ) W2):=hid (B1.trans (by rw[hW2];exact qy _ _ _ _ _ _ zo))
 show Exit.then _ _ .normal _ (W1.setChan (w.heap.size+1) 4 #[int i64 y0] true s (q+1) false)
 rw[← hW2]
 simp only[Act.put,List.setIfInBounds_toArray,List.set_cons_succ,List.set_cons_zero,Exit.then]
 have JH:=hid hs1
 have HS2:=hid hs2
 have cw:=hid hsz
 clear hW2 c1 cM2 cN2 So hch hs1 hs2 hsz
 gi_wp2_with (gi_at_builtin;refine aD rfl rfl rfl fun K5 iI=>?_;refine wp_append_lies _ _ _ _ rfl W1.heap.size 3 i0 _ 1 8 underlying51 hi0.out hz0 hz1 hz2 rfl zo (.slice none 0 0) 0 [] rfl ⟨rfl,.inl ⟨rfl,rfl⟩⟩ ⟨W2.heap.size,0,none⟩ 1 1 [_] rfl rfl (World.news_of_block (heap_alloc_new W2 _)) (by simp[Value.oneCell']) zo zU zo (by have:=HS2.out;simp;omega) (W2.heap.size+1) zs ?_;intro qQ nQ w10 hown5 aN kI mR;refine iI _ _ ?_;clear iI K5)
 have b10:Below W2.heap.size W2 w10:=((Below.refl _ W2).alloc zL _).trans (below_grown aN zs (fun g hg=>by cases hg))
 have c10:w10.heap[w.heap.size+1]? =some (.chan 4 #[int i64 y0] true s (q+1) false):=(b10.block _ (by have:=JH.out;have:=HS2.out;have:=cw.out;omega)).trans c2
 have S9:=hid hown5
 have aaC:=(aQ hown5 (g:=qQ) rfl).1
 have B10:Hid (Below w.heap.size (on w σ) w10):=hid (B2.out.trans (b10.mono (by have:=JH.out;have:=HS2.out;have:=cw.out;omega)))
 have tP:Hid (W2.heap.size≤w10.heap.size):=hid b10.size
 clear hown5 aN kI mR b10 c2
 rw[roundsIn_succ]
 refine wpIn_seq ?_
 refine yN rfl rfl c10 zs ?_
 obtain⟨W3,hW3⟩:∃W3,W3=w10.setChan (w.heap.size+1) 4 #[] true s (q+1+1) false:=zE
 have S3:Hid (W3.heap.size=w10.heap.size):=hid (by rw[hW3];exact mZ _ _ _ _ _ _ _ _)
 have c3:W3.heap[w.heap.size+1]? =some (.chan 4 #[] true s (q+1+1) false):=by rw[hW3];exact heap_setChan _ _ _ _ _ _ _ _ (by have:=tP.out;have:=JH.out;have:=HS2.out;have:=cw.out;omega)
 have B3:Hid (Below w.heap.size (on w σ) W3):=hid (B10.out.trans (by rw[hW3];exact qy _ _ _ _ _ _ zo))
 have pN:=hid (fC S9.out (w':=W3) (fun g hg hl=>by rw[hW3];exact vL _ _ _ _ _ _ _ _ _ (by have h1:=(aQ S9.out hg).1;have:=JH.out;have:=cw.out;omega)))
 show Exit.then _ _ .normal _ (w10.setChan (w.heap.size+1) 4 #[] true s (q+1+1) false)
 rw[← hW3]
 simp only[Act.put,List.setIfInBounds_toArray,List.set_cons_succ,List.set_cons_zero,Exit.then]
 clear hW3 c10 S9 B10
 gi_wp2_with (gi_at_builtin;refine aD rfl rfl rfl fun K5 iI=>?_;refine wp_append_lies _ _ _ _ rfl W1.heap.size 3 i0 _ 1 8 underlying51 hi0.out hz0 hz1 hz2 rfl zo (.slice (some ⟨qQ,0,none⟩) 1 nQ) 1 _ rfl (bG pN.out _) ⟨W3.heap.size,0,none⟩ 1 1 [_] rfl rfl (World.news_of_block (heap_alloc_new W3 _)) (by simp[Value.oneCell']) zo zU zo (by have:=S3.out;have:=tP.out;have:=HS2.out;simp;omega) (W3.heap.size+1) zs ?_;intro uC cap4 w20 hown6 uI Ug yi;refine iI _ _ ?_;clear iI K5)
 have b20:Below W1.heap.size W3 w20:=((Below.refl _ W3).alloc (by have:=S3.out;have:=tP.out;have:=HS2.out;omega) _).trans (below_grown uI (by have:=S3.out;have:=tP.out;have:=HS2.out;simp;omega) (fun g hg=>by cases hg;omega))
 have c20:w20.heap[w.heap.size+1]? =some (.chan 4 #[] true s (q+1+1) false):=(b20.block _ (by have:=JH.out;have:=cw.out;omega)).trans c3
 have tj:=hid hown6
 have B20:Hid (Below w.heap.size (on w σ) w20):=hid (B3.out.trans (b20.mono (by have:=JH.out;have:=cw.out;omega)))
 have S20:Hid (W1.heap.size≤w20.heap.size):=hid (by have:=b20.size;have:=S3.out;have:=tP.out;have:=HS2.out;omega)
 clear hown6 uI Ug yi b20 c3
 rw[roundsIn_succ]
 refine wpIn_seq ?_
 refine Ja rfl rfl c20 ?_
 simp only[Act.put,List.setIfInBounds_toArray,List.set_cons_succ,List.set_cons_zero,Exit.then]
 have tp:=hid (na W1.heap.size (.slice (some ⟨uC,0,none⟩) 2 cap4) [x0,y0] w20 zs zs tj.out)
 clear c20 pN tj
 gi_wp2_with (gi_at_call 122;refine tp.out.mono ?_;rintro e w22 ⟨rfl,hown,hgrow⟩)
 rw[hQp]
 rw[hsrt] at hown
 have b22:Below W1.heap.size w20 w22:=below_grown hgrow S20.out (fun g hg=>by have h1:=(aQ hown hg).1;omega)
 exact⟨rfl,_,results_tmp rfl _ _ _,_,rfl,⟨σ,B20.out.trans (b22.mono (by have:=JH.out;have:=cw.out;omega))⟩,bO hown (by have:=JH.out;have:=cw.out;omega)⟩
theorem enter_at{fn:Func}{c:Code}{f:FuncId}{args:Array Value}(hf:Tryz.prog.funcs[f]? =some fn)(hb:fn.body=some c):Frame.enter prog f args .normal=(base f).at {tmps:=args ++ Array.replicate (fn.ntmps - args.size) undef,defers:=[] } [.code c]:=by
 simp[Frame.enter,Frame.at,hf,hb,base]
theorem WK(cb:Nat):Frame.enter prog 99 #[int i64 4,fG cb] .normal=kU 4 cb:=by
 rw[enter_at func99 (c:=uU) rfl]
 simp only[ntmps99,List.size_toArray,List.length_cons,List.length_nil,Nat.reduceAdd,Nat.reduceSub,Array.replicate_succ,Array.replicate_zero,List.push_toArray,List.append_toArray,List.nil_append,List.cons_append]
 rfl
theorem bm(ac:Act)(cs:List Frame)(v:World)(σ:Tape):((⟨Au ac,cs,v⟩:dP.Pt).on σ).m=lone ((base 99).atR (ac.put ((p8[0]?).bind (·.dst)) (.tuple #[])) (.inRegion p8 [] :: [mo].map Item.code)) cs (on v σ):=rfl
theorem oE:(p8[0]?).bind (·.dst)=some 19:=rfl
theorem Rx(cb:Nat)(bit:Nat→Bool)(w:World)(hpre:Na 4 cb bit w)(hbit:(List.range 4).filter bit=[2,3]):jc 99 #[int i64 4,fG cb] w (xq w):=by
 refine⟨zs,fun cs=>⟨4,cb,cs,w,bit,?_,hpre,fun ac hac v hb σ=>?_⟩⟩
 ·rw[WK]
  exact .refl _
 ·obtain⟨x7,x14,x15,x16,x17,x18,rfl⟩:=hac
  rw[bm,oE]
  have h:=MJ cb bit w hbit x7 x14 x15 x16 x17 x18 v hb σ
  refine Dr (ops:=p8) (fn:=Tryz.f99) (R:=xq w) (l:=[mo]) (rest:=[]) ?_ (base 99) cs rfl rfl (by show FF.fn 99;simp) func99
  exact wpIn_mono h (fun e a w h=>by cases e <;> exact h)
end
section
open Go.RowKit
open Go.Sort (grow)
attribute [local go_sem] Oper.semAt_some
theorem Pq(b:Bk)(A:Option Addr)(p s Bc:Nat)(w:World)(hc:pJ b A w)(ok:b.Ok)(hl:∀s∈ak b,eu s)(hs:s<1024)(h4:(aM s 10).length≤4)(hin:∀x∈aM s 10,0≤x∧x<b.nc)(q:∀j,w.cell? ⟨Bc,j,none⟩=(aA b A (ak b).length p)[j]?):
 CallsIn SF 0 prog 100 #[int i64 s,.pointer (some ⟨Bc,0,none⟩)] w fun e w'=>(∃A' cc',e=.returned (.bool (aB (jD b s A' cc') (ak b)).isEmpty))∧Below w.heap.size w w':=by
 obtain⟨n,hn⟩:∃n,n=(ak b).length:=zE
 have HA:=hid fun(w':World) (hb:Below w.heap.size w w')=>XL b s A n p w' (hc.at_.up hb) hs hin
 have Ks:Hid (∀ (A':Option Addr) (cc':Nat) (w':World),Below w.heap.size w w'→Rows w' w'.heap.size 4 A' (aM s 10).length (fun i j=>(TQ b s i).cell j)→(jD b s A' cc').At w' w'.heap.size):=hid fun A' cc' w' hb hr=>
  ⟨(hc.at_.up hb).g,(hc.at_.up hb).m,hr,hc.at_.ng,hc.at_.nm,(Nat.le_trans h4 zU:(aM s 10).length≤maxLen),hc.at_.name⟩
 have HR:=hid fun(w':World) (hb:Below w.heap.size w w')=>(hc.row.below hb).more hb.size
 have HH:=hid fun A' cc' (w':World)=>nV (p:=SF.fn) (jD b s A' cc') A n p w'
 have HS:=hid fun A' cc' Bc' (w':World) hA hR hb=>Mk (jD b s A' cc') (ju b s A' cc' ok h4 hin) (ak b) hl (lT b ok) A p Bc' w' hA hR hb
 have HY:=hid fun A' cc' lb (w':World) h=>Tq (p:=SF.fn) 79 lb (aB (jD b s A' cc') (ak b)) w' h
 obtain⟨R,hR⟩:∃R:Option Addr→Nat→List Ht,R=fun A' cc'=>aB (jD b s A' cc') (ak b):=⟨_,rfl⟩
 have pS:Hid (∀A' cc',aB (jD b s A' cc') (ak b)=R A' cc'):=hid fun A' cc'=>by rw[hR]
 have goal:∀ (e:Ending) (w':World),((∃A' cc',e=.returned (.bool (R A' cc').isEmpty))∧Below w.heap.size w w')→(∃A' cc',e=.returned (.bool (aB (jD b s A' cc') (ak b)).isEmpty))∧Below w.heap.size w w':=fun e w' ⟨⟨A',cc',h⟩,hb⟩=>⟨⟨A',cc',by rw[pS.out];exact h⟩,hb⟩
 refine CallsIn.mono ?_ goal
 rw[← hn] at q
 clear goal hR hl hs ok hc
 have Hn:=hid hn
 clear hn
 obtain⟨w0,hw0⟩:∃w0,w0=w:=zE
 have q0:w.cell? ⟨Bc,0,none⟩=some (int i64 b.dY):=q 0
 have q1:w.cell? ⟨Bc,1,none⟩=some (int i64 b.mO):=q 1
 have q2:w.cell? ⟨Bc,2,none⟩=some (.slice b.gA b.ng b.gc):=q 2
 have q3:w.cell? ⟨Bc,3,none⟩=some (.slice b.mA b.nm b.mc):=q 3
 have q4:w.cell? ⟨Bc,4,none⟩=some (.slice b.cA b.nc b.cc):=q 4
 have q5:w.cell? ⟨Bc,5,none⟩=some (.slice A n p):=q 5
 clear q
 simp only[aA] at HA HH
 gi_enter func100,ntmps100
 gi_wp2_with (first
  | (gi_at_call 101;refine(HA.out w zB).mono ?_;rintro e w3 ⟨A',cc',rfl,hr3,hb3⟩)
  | (gi_at_call 39;refine(HH.out A' cc' w3).mono ?_;rintro e w4 ⟨rfl,hw4,hb4,-⟩)
  | (gi_at_call 77;refine(HY.out A' cc' _ w4 (HS.out A' cc' _ w4 ((Ks.out A' cc' w3 hb3 hr3).up hb4) (HR.out w4 (Below.next hb3 hb4)) (by rw[← Hn.out];exact hw4))).mono ?_;rintro e w5 ⟨rfl,hb5⟩;rw[pS.out]))
 go_ret
 refine⟨⟨A',cc',?_⟩,Below.next (Below.next hb3 hb4) hb5⟩
 simp
def tgC:Array Value:=#[.string ⟨#[116,101,97]⟩,int i64 5,int i64 4,int i64 3,int i64 3,.string ⟨#[114,105,99,101]⟩,int i64 2,int i64 10,int i64 5,int i64 6]
def tmC:Array Value:=#[int i64 0,int i64 0,int i64 2,int i64 4,int i64 4,int i64 1,int i64 0,int i64 3,int i64 2,int i64 3,int i64 2,int i64 1,int i64 4,int i64 0,int i64 1,int i64 0,int i64 1,int i64 5,int i64 10,int i64 10]
def tcC:Array Value:=#[int i64 0,int i64 10,int i64 4,int i64 5,int i64 1,int i64 10,int i64 5,int i64 5]
def Xj(w:World)(G M C:Nat):Prop:=Whole w G 83 tgC∧Whole w M 39 tmC∧Whole w C 45 tcC
theorem Xj.of{w w':World}{G M C:Nat}(h:Xj w G M C)(hk:∀b,b<w.heap.size→w'.heap[b]? =w.heap[b]?):Xj w' G M C:=⟨h.1.of (hk _ h.1.lt),h.2.1.of (hk _ h.2.1.lt),h.2.2.of (hk _ h.2.2.lt)⟩
theorem KP(w:World):CallsIn FF 0 prog 17 #[] w fun e w'=>∃G M C,e=.returned (Tb 1 G M C).val∧(Tb 1 G M C).At w' w'.heap.size∧Below w.heap.size w w'∧Xj w' G M C:=by
 have HT:=hid Ex
 gi_enter func17,ntmps17
 gi_wp2_with (first
  | (gi_at_call 28;refine(HT.out 3 3 _).mono ?_;rintro e w1 ⟨rfl,hb1⟩)
  | (gi_at_call 28;refine(HT.out 5 6 _).mono ?_;rintro e w2 ⟨rfl,hb2⟩)
  | (gi_at_call 28;refine(HT.out 4 4 _).mono ?_;rintro e w3 ⟨rfl,hb3⟩)
  | (gi_at_call 28;refine(HT.out 2 3 _).mono ?_;rintro e w4 ⟨rfl,hb4⟩)
  | (gi_at_call 28;refine(HT.out 0 1 _).mono ?_;rintro e w5 ⟨rfl,hb5⟩)
  | (gi_at_call 28;refine(HT.out 10 10 _).mono ?_;rintro e w6 ⟨rfl,hb6⟩)
  | (gi_at_call 28;refine(HT.out 4 5 _).mono ?_;rintro e w7 ⟨rfl,xZ⟩)
  | (gi_at_call 28;refine(HT.out 5 5 _).mono ?_;rintro e w8 ⟨rfl,Xm⟩;have k1:=hb1.size;have k2:=hb2.size;have k3:=hb3.size;have k4:=hb4.size;have k5:=hb5.size;have k6:=hb6.size;have k7:=xZ.size;have k8:=Xm.size;simp only[World.size_alloc] at k1 k2 k3 k4 k5 k6 k7 k8;have Y1:=(Whole.new w 26 #[int i64 0,int i64 0,.slice none 0 0,.slice none 0 0,.slice none 0 0]).below hb1 zs;have Y2:=Y1.below hb2 Y1.lt;have Y3:=(Y2.alloc (.cells #[.string ⟨#[116,101,97]⟩,int i64 5,int i64 4,int i64 3,int i64 3,.string ⟨#[114,105,99,101]⟩,int i64 2,int i64 10,int i64 5,int i64 6] 83)).below hb3 (Y2.alloc _).lt;have Y4:=Y3.below hb4 Y3.lt;have Y5:=Y4.below hb5 Y4.lt;have Y6:=Y5.below hb6 Y5.lt;have Y7:=(Y6.alloc (.cells #[int i64 0,int i64 0,int i64 2,int i64 4,int i64 4,int i64 1,int i64 0,int i64 3,int i64 2,int i64 3,int i64 2,int i64 1,int i64 4,int i64 0,int i64 1,int i64 0,int i64 1,int i64 5,int i64 10,int i64 10] 39)).below xZ (Y6.alloc _).lt;have Y8:=Y7.below Xm Y7.lt;have Y9:=Y8.alloc (.cells #[int i64 0,int i64 10,int i64 4,int i64 5,int i64 1,int i64 10,int i64 5,int i64 5] 45);have yth:=Y9.thaw;have y0:(w8.alloc (.cells #[int i64 0,int i64 10,int i64 4,int i64 5,int i64 1,int i64 10,int i64 5,int i64 5] 45)).cell? ⟨w.heap.size,0,none⟩=some (int i64 0):=Y9.cell 0;have y1:(w8.alloc (.cells #[int i64 0,int i64 10,int i64 4,int i64 5,int i64 1,int i64 10,int i64 5,int i64 5] 45)).cell? ⟨w.heap.size,1,none⟩=some (int i64 0):=Y9.cell 1;have y2:(w8.alloc (.cells #[int i64 0,int i64 10,int i64 4,int i64 5,int i64 1,int i64 10,int i64 5,int i64 5] 45)).cell? ⟨w.heap.size,2,none⟩=some (.slice none 0 0):=Y9.cell 2;have y3:(w8.alloc (.cells #[int i64 0,int i64 10,int i64 4,int i64 5,int i64 1,int i64 10,int i64 5,int i64 5] 45)).cell? ⟨w.heap.size,3,none⟩=some (.slice none 0 0):=Y9.cell 3;have y4:(w8.alloc (.cells #[int i64 0,int i64 10,int i64 4,int i64 5,int i64 1,int i64 10,int i64 5,int i64 5] 45)).cell? ⟨w.heap.size,4,none⟩=some (.slice none 0 0):=Y9.cell 4))
 have g3:=(Whole.new w2 83 #[.string ⟨#[116,101,97]⟩,int i64 5,int i64 4,int i64 3,int i64 3,.string ⟨#[114,105,99,101]⟩,int i64 2,int i64 10,int i64 5,int i64 6]).below hb3 zs
 have g4:=g3.below hb4 g3.lt
 have g5:=g4.below hb5 g4.lt
 have g6:=g5.below hb6 g5.lt
 have g7:=(g6.alloc (.cells #[int i64 0,int i64 0,int i64 2,int i64 4,int i64 4,int i64 1,int i64 0,int i64 3,int i64 2,int i64 3,int i64 2,int i64 1,int i64 4,int i64 0,int i64 1,int i64 0,int i64 1,int i64 5,int i64 10,int i64 10] 39)).below xZ (g6.alloc _).lt
 have g8:=(g7.below Xm g7.lt).alloc (.cells #[int i64 0,int i64 10,int i64 4,int i64 5,int i64 1,int i64 10,int i64 5,int i64 5] 45)
 have m7:=(Whole.new w6 39 #[int i64 0,int i64 0,int i64 2,int i64 4,int i64 4,int i64 1,int i64 0,int i64 3,int i64 2,int i64 3,int i64 2,int i64 1,int i64 4,int i64 0,int i64 1,int i64 0,int i64 1,int i64 5,int i64 10,int i64 10]).below xZ zs
 have m8:=(m7.below Xm m7.lt).alloc (.cells #[int i64 0,int i64 10,int i64 4,int i64 5,int i64 1,int i64 10,int i64 5,int i64 5] 45)
 have c8:=Whole.new w8 45 #[int i64 0,int i64 10,int i64 4,int i64 5,int i64 1,int i64 10,int i64 5,int i64 5]
 have U:=(((((Y8.alloc (.cells #[int i64 0,int i64 10,int i64 4,int i64 5,int i64 1,int i64 10,int i64 5,int i64 5] 45)).set 0 (int i64 10)).set 1 (int i64 1)).set 2 (.slice (some ⟨w2.heap.size,0,none⟩) 2 2)).set 3 (.slice (some ⟨w6.heap.size,0,none⟩) 4 4)).set 4 (.slice (some ⟨w8.heap.size,0,none⟩) 2 2)
 have u0:=U.cell 0
 have u1:=U.cell 1
 have u2:=U.cell 2
 have u3:=U.cell 3
 have u4:=U.cell 4
 have HB:Below w.heap.size w (w8.alloc (.cells #[int i64 0,int i64 10,int i64 4,int i64 5,int i64 1,int i64 10,int i64 5,int i64 5] 45)):=Below.al (Below.next (Below.next (Below.al (Below.next (Below.next (Below.next (Below.next (Below.al (Below.next (Below.next (Below.al (Below.refl _ w) _) hb1) hb2) _) hb3) hb4) hb5) hb6) _) xZ) Xm) _
 refine bodyPost_ret (v:=.agg #[int i64 10,int i64 1,.slice (some ⟨w2.heap.size,0,none⟩) 2 2,.slice (some ⟨w6.heap.size,0,none⟩) 4 4,.slice (some ⟨w8.heap.size,0,none⟩) 2 2]) (by simp[results,results17,go_sem,u0,u1,u2,u3,u4]) rfl ⟨w2.heap.size,w6.heap.size,w8.heap.size,rfl,⟨?_,?_,?_,(by decide:2≤maxLen),(by decide:4≤maxLen),(by decide:2≤maxLen),fun i _=>?_⟩,?_,?_,?_,?_⟩
 ·exact bV ((((((g8).other (p:=⟨w.heap.size,0,none⟩) zn (int i64 10)).other (p:=⟨w.heap.size,1,none⟩) zn (int i64 1)).other (p:=⟨w.heap.size,2,none⟩) zn (.slice (some ⟨w2.heap.size,0,none⟩) 2 2)).other (p:=⟨w.heap.size,3,none⟩) zn (.slice (some ⟨w6.heap.size,0,none⟩) 4 4)).other (p:=⟨w.heap.size,4,none⟩) zn (.slice (some ⟨w8.heap.size,0,none⟩) 2 2)) fun i j hi hj=>(by have hi:i<2:=hi;have hj:j<5:=hj;rcases(show i=0∨i=1 by omega) with rfl|rfl <;> rcases(show j=0∨j=1∨j=2∨j=3∨j=4 by omega) with rfl|rfl|rfl|rfl|rfl <;> rfl)
 ·exact bV ((((((m8).other (p:=⟨w.heap.size,0,none⟩) zn (int i64 10)).other (p:=⟨w.heap.size,1,none⟩) zn (int i64 1)).other (p:=⟨w.heap.size,2,none⟩) zn (.slice (some ⟨w2.heap.size,0,none⟩) 2 2)).other (p:=⟨w.heap.size,3,none⟩) zn (.slice (some ⟨w6.heap.size,0,none⟩) 4 4)).other (p:=⟨w.heap.size,4,none⟩) zn (.slice (some ⟨w8.heap.size,0,none⟩) 2 2)) fun i j hi hj=>(by have hi:i<4:=hi;have hj:j<5:=hj;rcases(show i=0∨i=1∨i=2∨i=3 by omega) with rfl|rfl|rfl|rfl <;> rcases(show j=0∨j=1∨j=2∨j=3∨j=4 by omega) with rfl|rfl|rfl|rfl|rfl <;> rfl)
 ·exact bV ((((((c8).other (p:=⟨w.heap.size,0,none⟩) zn (int i64 10)).other (p:=⟨w.heap.size,1,none⟩) zn (int i64 1)).other (p:=⟨w.heap.size,2,none⟩) zn (.slice (some ⟨w2.heap.size,0,none⟩) 2 2)).other (p:=⟨w.heap.size,3,none⟩) zn (.slice (some ⟨w6.heap.size,0,none⟩) 4 4)).other (p:=⟨w.heap.size,4,none⟩) zn (.slice (some ⟨w8.heap.size,0,none⟩) 2 2)) fun i j hi hj=>(by have hi:i<2:=hi;have hj:j<4:=hj;rcases(show i=0∨i=1 by omega) with rfl|rfl <;> rcases(show j=0∨j=1∨j=2∨j=3 by omega) with rfl|rfl|rfl|rfl <;> rfl)
 ·show((tg i).name).size≤maxLen
  rcases i with _|i
  ·exact(by decide:3≤maxLen)
  ·exact(by decide:4≤maxLen)
 ·exact((((HB.setCell (p:=⟨w.heap.size,0,none⟩) zs _).setCell zs _).setCell zs _).setCell zs _).setCell zs _
 ·exact((((((g8).other (p:=⟨w.heap.size,0,none⟩) zn (int i64 10)).other (p:=⟨w.heap.size,1,none⟩) zn (int i64 1)).other (p:=⟨w.heap.size,2,none⟩) zn (.slice (some ⟨w2.heap.size,0,none⟩) 2 2)).other (p:=⟨w.heap.size,3,none⟩) zn (.slice (some ⟨w6.heap.size,0,none⟩) 4 4)).other (p:=⟨w.heap.size,4,none⟩) zn (.slice (some ⟨w8.heap.size,0,none⟩) 2 2))
 ·exact((((((m8).other (p:=⟨w.heap.size,0,none⟩) zn (int i64 10)).other (p:=⟨w.heap.size,1,none⟩) zn (int i64 1)).other (p:=⟨w.heap.size,2,none⟩) zn (.slice (some ⟨w2.heap.size,0,none⟩) 2 2)).other (p:=⟨w.heap.size,3,none⟩) zn (.slice (some ⟨w6.heap.size,0,none⟩) 4 4)).other (p:=⟨w.heap.size,4,none⟩) zn (.slice (some ⟨w8.heap.size,0,none⟩) 2 2))
 ·exact((((((c8).other (p:=⟨w.heap.size,0,none⟩) zn (int i64 10)).other (p:=⟨w.heap.size,1,none⟩) zn (int i64 1)).other (p:=⟨w.heap.size,2,none⟩) zn (.slice (some ⟨w2.heap.size,0,none⟩) 2 2)).other (p:=⟨w.heap.size,3,none⟩) zn (.slice (some ⟨w6.heap.size,0,none⟩) 4 4)).other (p:=⟨w.heap.size,4,none⟩) zn (.slice (some ⟨w8.heap.size,0,none⟩) 2 2))
end
section
open Go.RowKit
theorem YZ(b:Bk)(w:World)(h:b.At w w.heap.size)(ok:b.Ok)(hcap:b.ng≤b.gc):CallsIn FF 0 prog 37 #[b.val] w fun e w'=>∃A p,e=.returned (.tuple #[.agg (aA b A (ak b).length p),int i64 0])∧pJ b A w'∧Below w.heap.size w w'∧∀ad,A=some ad→0<(ak b).length→w.heap.size≤ad.block∧ad=⟨ad.block,0,none⟩∧∃c e,w'.heap[ad.block]? =some (.cells c e (0,0))∧∀x∈c.toList,∃n,x=int i64 n:=by
 refine(Vq b w h ok hcap).mono ?_
 rintro e w' ⟨A,p,rfl,hrow,hb,hib⟩
 have hl:(bR b (2 ^ b.nm)).length=(ak b).length:=by rw[sH,List.length_map]
 refine⟨A,p,by rw[hl,TP],⟨h.up hb,?_⟩,hb,fun ad hA hn=>by
  subst hA
  rcases hrow.2 with⟨h0,_⟩|⟨g',cap,cur,h0,h1,_⟩
  ·injection h0 with h0 _ _;cases h0
  ·injection h0 with h0 _ _;cases h0;exact⟨h1,rfl,hib g' rfl⟩⟩
 have:=eH hrow
 rw[hl] at this
 unfold Ints at this
 intro hn
 obtain⟨ad,e,hb,hc⟩:=this hn
 refine⟨ad,e,hb,fun i j hi hj=>(hc i j hi hj).trans ?_⟩
 rw[sH]
 congr 2
 simp[List.getD_eq_getElem?_getD,List.getElem?_map,List.getElem?_eq_getElem hi]
end
section
open Go Go.Conc Go.ConcN Go.cu Go.Conc.Lib Go.aP Go.RowKit
variable[Inhabited aV]
theorem GK(D:Nat→Prop)(w:World)(σ:Tape)(p:Addr):(on (wK D w) σ).cell? p=w.cell? p:=by
 unfold World.cell?
 show(match (wK D w).heap[p.block]? with|some (.cells c _ _)=>if p.spot.isSome then none else c[p.off]? |_=>none)=_
 by_cases h:D p.block
 ·cases ho:w.heap[p.block]? with
  | none=>rw[show(wK D w).heap[p.block]? =none by simp[wK,Array.getElem?_mapIdx,ho]]
  | some o=>
    rw[show(wK D w).heap[p.block]? =some (ks o) by simp[wK,Array.getElem?_mapIdx,ho,h]]
    cases o <;> rfl
 ·rw[Ym h]
  cases w.heap[p.block]? with
  | none=>rfl
  | some o=>cases o <;> rfl
theorem sZ{D:Nat→Prop}{w:World}{σ:Tape}{B size n:Nat}{A:Option Addr}{f:Nat→Nat→Value}(h:Rows w B size A n f):Rows (on (wK D w) σ) B size A n f:=fun hn=>by
 obtain⟨ad,e,hb,hc⟩:=h hn
 exact⟨ad,e,hb,fun i j hi hj=>(GK D w σ _).trans (hc i j hi hj)⟩
theorem XY{D:Nat→Prop}{w:World}{σ:Tape}{b:Bk}{A:Option Addr}(h:pJ b A w):pJ b A (on (wK D w) σ):=by
 have e:(on (wK D w) σ).heap.size=w.heap.size:=Ua D w
 exact⟨by rw[e];exact⟨sZ h.at_.g,sZ h.at_.m,sZ h.at_.c,h.at_.ng,h.at_.nm,h.at_.nc,h.at_.name⟩,by rw[e];exact sZ h.row⟩
def flat:Value→Bool
 | .int _ _=>true
 | .string _=>true
 | _=>false
theorem EI{ρ:cu.Ren}{v:Value}(h:flat v=true):VR ρ v v:=by
 cases v <;> first|exact .int _ _|exact .string _|cases h
theorem Aw{ρ:cu.Ren}{c:Array Value}(h:∀v∈c.toList,VR ρ v v):dX ρ c c:=⟨rfl,fun i h1 _=>h _ zs⟩
theorem xR{c:Array Value}(h:c.toList.all flat=true):∀v∈c.toList,flat v=true:=fun v hv=>List.all_eq_true.1 h v hv
def Py(Bc G M C gA:Nat)(b:Nat):Prop:=b=Bc∨b=G∨b=M∨b=C∨b=gA
theorem KE{Bc G M C gA p:Nat}{w:World}(hb:Whole w Bc 75 (aA (Tb 0 G M C) (some ⟨gA,0,none⟩) 4 p))(hT:Xj w G M C)(hA:∃c e,w.heap[gA]? =some (.cells c e (0,0))∧∀x∈c.toList,∃n,x=int i64 n):Closed (Py Bc G M C gA) w:=fun b hd=>by
 have ar:∀g,Py Bc G M C gA g→cu.AR (Ir (Py Bc G M C gA)) ⟨g,0,none⟩ ⟨g,0,none⟩:=fun g hg=>⟨NV hg,rfl,rfl⟩
 rcases hd with rfl|rfl|rfl|rfl|rfl
 ·refine⟨_,_,_,hb,Nat.zero_le _,Aw fun v hv=>?_⟩
  simp only[Tb,aA,List.mem_cons,List.not_mem_nil,or_false] at hv
  rcases hv with rfl|rfl|rfl|rfl|rfl|rfl
  ·exact .int _ _
  ·exact .int _ _
  ·exact .sl _ _ (ar G (.inr (.inl rfl)))
  ·exact .sl _ _ (ar M (.inr (.inr (.inl rfl))))
  ·exact .sl _ _ (ar C (.inr (.inr (.inr (.inl rfl)))))
  ·exact .sl _ _ (ar gA (.inr (.inr (.inr (.inr rfl)))))
 ·exact⟨_,_,_,hT.1,Nat.zero_le _,Aw fun v hv=>EI (xR zD v hv)⟩
 ·exact⟨_,_,_,hT.2.1,Nat.zero_le _,Aw fun v hv=>EI (xR zD v hv)⟩
 ·exact⟨_,_,_,hT.2.2,Nat.zero_le _,Aw fun v hv=>EI (xR zD v hv)⟩
 ·obtain⟨c,e,h1,h2⟩:=hA
  exact⟨_,_,_,h1,Nat.zero_le _,Aw fun v hv=>by obtain⟨n,rfl⟩:=h2 v hv;exact .int _ _⟩
def XP(i:Nat):Bool:=decide (2≤i)
theorem Ph:(List.range 4).filter XP=[2,3]:=zD
theorem QB{Bc G M C gA p:Nat}{w:World}(hb:Whole w Bc 75 (aA (Tb 0 G M C) (some ⟨gA,0,none⟩) 4 p))(hT:Xj w G M C)(hA:∃c e,w.heap[gA]? =some (.cells c e (0,0))∧∀x∈c.toList,∃n,x=int i64 n)(hc:pJ (Tb 0 G M C) (some ⟨gA,0,none⟩) w):Na 4 Bc XP w:=by
 refine⟨zD,Py Bc G M C gA,KE hb hT hA,.inl rfl,0,fun i hi σ=>?_⟩
 have hl4:(ak (Tb 0 G M C)).length=4:=by rw[wU];rfl
 have q:∀j,(on (wK (Py Bc G M C gA) w) σ).cell? ⟨Bc,j,none⟩=(aA (Tb 0 G M C) (some ⟨gA,0,none⟩) (ak (Tb 0 G M C)).length p)[j]?:=fun j=>by
  rw[GK,hl4]
  exact hb.cell j
 have hs:i=0∨i=1∨i=2∨i=3:=zo
 have hset:(aM i 10).length≤4∧∀x∈aM i 10,0≤x∧x<((Tb 0 G M C).nc:Int):=by
  show _∧∀x∈aM i 10,0≤x∧x<(2:Int)
  rcases hs with rfl|rfl|rfl|rfl <;> decide
 have:=Pq (Tb 0 G M C) (some ⟨gA,0,none⟩) p i Bc (on (wK (Py Bc G M C gA) w) σ) (XY hc) (kE 0 zD G M C) (fF 0 G M C) zo hset.1 hset.2 q
 refine CallsIn.mono this ?_
 rintro e w' ⟨⟨A',cc',rfl⟩,-⟩
 rcases hs with rfl|rfl|rfl|rfl
 ·rw[Rq];rfl
 ·rw[Rt];rfl
 ·rw[Ru];rfl
 ·rw[Rv];rfl
end
section
open Go.RowKit
open Go.Sort (grow)
attribute [local go_sem] Oper.semAt_some
theorem Vd(g c g1 c1 g2 c2:Nat)(w:World)(h0:w.cell? ⟨g,0,none⟩=some (.slice (some ⟨g1,0,none⟩) 1 c1))(h1:w.cell? ⟨g,1,none⟩=some (.slice (some ⟨g2,0,none⟩) 2 c2))(h10:w.cell? ⟨g1,0,none⟩=some (int i64 1))(h20:w.cell? ⟨g2,0,none⟩=some (int i64 0)):
 CallsIn FF 0 prog 124 #[.func (.func 125) #[] #[],.slice (some ⟨g,0,none⟩) 2 c] w fun e w'=>e=.returned (.tuple #[.slice (some ⟨g1,0,none⟩) 1 c1,.bool true])∧Below w.heap.size w w':=by
 have HC:=hid (Pz g2 c2 g1 c1 w h20 h10)
 gi_enter func124,ntmps124
 gi_wp2
 refine wpIn_loop_rounds 3 ?_
 rw[roundsIn_succ]
 gi_wp2
 repeat (refine⟨fun f h=>(by cases h),?_⟩;gi_wp2)
 rw[roundsIn_succ]
 gi_wp2_with (gi_at_call 125;refine HC.out.mono ?_;rintro e w3 ⟨rfl,hb3⟩)
 rw[roundsIn_succ]
 gi_wp2
 go_ret2
 exact⟨rfl,hb3⟩
theorem Lp(g c:Nat)(w:World)(hc0:w.cell? ⟨g,0,none⟩=some (int i64 2))(hc1:w.cell? ⟨g,1,none⟩=some (int i64 3))(hg:g<w.heap.size):CallsIn FF 0 prog 95 #[.slice (some ⟨g,0,none⟩) 2 c] w fun e w'=>∃v,e=.returned (.tuple #[v,.bool true])∧w'.ownsRow w.heap.size 3 1 v 1 [int i64 1]∧Below w.heap.size w w':=by
 have e2:aM 2 10=[1]:=zD
 have e3:aM 3 10=[0,1]:=zD
 have HS2:=hid fun w=>by have:=mU 2 w zD;rw[e2] at this;exact this
 have MD:=hid fun w=>by have:=mU 3 w zD;rw[e3] at this;exact this
 have HL:=hid Vd
 obtain⟨i0,hi,hz0,hz1,hz2⟩:=info_parts Tryz.infoL
 have hi0:=hid hi
 clear hi e2 e3
 gi_enter func95,ntmps95
 gi_wp2
 refine wpIn_loop_rounds 3 ?_
 rw[roundsIn_succ]
 gi_wp2_with (first
  | (gi_at_call 102;refine(HS2.out w).mono ?_;rintro e w3 ⟨v,rfl,hown,hb3⟩;have pN:=hid hown;obtain⟨g1,c1,rfl,aax,aay⟩:=hown.form zD;clear hown)
  | (gi_at_builtin;refine aD rfl rfl rfl fun K5 iI=>?_;refine wp_append_lies _ _ _ _ rfl w3.heap.size 51 i0 _ 1 24 underlying71 hi0.out hz0 hz1 hz2 rfl zo (.slice none 0 0) 0 [] rfl ⟨rfl,.inl ⟨rfl,rfl⟩⟩ ⟨w3.heap.size,0,none⟩ 1 1 [_] rfl rfl (World.news_of_block (heap_alloc_new w3 _)) (by simp[Value.oneCell']) zo zU zo zs (w3.heap.size+1) zs ?_;intro qQ nQ w10 hown5 aN kI mR;refine iI _ _ ?_;clear iI K5))
 have SQ:Hid (Below w.heap.size w w10):=hid ((Below.al hb3 _).trans (below_grown aN (by simp;have:=hb3.size;omega) (fun g hg=>by cases hg)))
 have S9:=hid (oU (bG pN.out (.cells #[.slice (some ⟨g1,0,none⟩) [(1:Int)].length c1] 51)) aN (fun g hg=>by simp[Value.ownBlock]))
 have Kf:=hid hown5
 have aaO:=SQ.out.size
 have aaq:w3.heap.size+1≤w10.heap.size:=by
  have:=(below_grown (B:=w3.heap.size) aN zs (fun g hg=>by cases hg)).size
  simpa using this
 have hc1':w10.cell? ⟨g,1,none⟩=some (int i64 3):=(SQ.out.cell hg).trans hc1
 have aaB:w3.heap.size≤qQ:=(aQ hown5 (g:=qQ) rfl).1
 have hgg:g1<qQ:=by have:=(aQ hown5 (g:=qQ) rfl).1;omega
 rw[roundsIn_succ]
 gi_wp2_with (first
  | (gi_at_call 102;refine(MD.out w10).mono ?_;rintro e w13 ⟨v,rfl,hown,BF⟩;have Mm:=hid hown;obtain⟨g2,c2,rfl,aaz,aaA⟩:=hown.form zD;clear hown)
  | (gi_at_builtin;refine aD rfl rfl rfl fun K5 iI=>?_;refine wp_append_lies _ _ _ _ rfl w3.heap.size 51 i0 _ 1 24 underlying71 hi0.out hz0 hz1 hz2 rfl zo (.slice (some ⟨qQ,0,none⟩) 1 nQ) 1 _ rfl (bG (own_below Kf.out BF) _) ⟨w13.heap.size,0,none⟩ 1 1 [_] rfl rfl (World.news_of_block (heap_alloc_new w13 _)) (by simp[Value.oneCell']) zo zU zo (by have:=BF.size;simp;omega) (w13.heap.size+1) zs ?_;intro uC cap4 w20 hown6 uI Ug yi;refine iI _ _ ?_;clear iI K5))
 have kz:Below w3.heap.size w10 w20:=((BF.mono zo).alloc (by have:=BF.size;omega) _).trans (below_grown uI (by have:=BF.size;simp;omega) (fun q hq=>by cases hq;omega))
 have L1:=oU (bG (own_below S9.out BF) (.cells #[.slice (some ⟨g2,0,none⟩) [(0:Int),1].length c2] 51)) uI (fun q hq e=>by cases hq;cases e;omega)
 have L2:=oU (bG Mm.out (.cells #[.slice (some ⟨g2,0,none⟩) [(0:Int),1].length c2] 51)) uI (fun q hq e=>by cases hq;cases e;omega)
 have k1:=L1.cells (g:=g1) rfl 0 (int i64 1) zs
 have k2:=L2.cells (g:=g2) rfl 0 (int i64 0) zs
 have k3:=hown6.cells (g:=uC) rfl 0 (.slice (some ⟨g1,0,none⟩) 1 c1) zs
 have k4:=hown6.cells (g:=uC) rfl 1 (.slice (some ⟨g2,0,none⟩) 2 c2) zs
 simp only[Addr.add] at k1 k2 k3 k4
 rw[roundsIn_succ]
 gi_wp2_with (gi_at_call 124;refine(HL.out uC cap4 g1 c1 g2 c2 w20 (by simpa using k3) (by simpa using k4) (by simpa using k1) (by simpa using k2)).mono ?_;rintro e w22 ⟨rfl,xa⟩)
 go_ret2
 refine⟨_,rfl,own_below L1 xa,Below.next (SQ.out.trans (kz.mono ?_)) xa⟩
 have:=hb3.size
 omega
end
section
open Go Go.Conc Go.ConcN Go.cu Go.Conc.Lib Go.aP Go.RowKit
attribute [local go_sem] Oper.semAt_some
variable[Inhabited aV]
def Past(w w':World):Prop:=∃τ,Below w.heap.size (on w τ) w'
theorem Past.below{w w' w2:World}(h:Past w w')(k:Below w'.heap.size w' w2):Past w w2:=by
 obtain⟨τ,h⟩:=h
 exact⟨τ,h.trans (k.mono h.size)⟩
theorem Past.of{w w1 w':World}(h:Below w.heap.size w w1)(k:Past w1 w'):Past w w':=by
 obtain⟨τ,k⟩:=k
 have hs:=h.size
 exact⟨τ,⟨k.os.trans h.os,k.tape,k.output.trans h.output,Nat.le_trans h.size k.size,fun b hb=>(k.block b (Nat.lt_of_lt_of_le hb hs)).trans (h.block b hb)⟩⟩
def RY(w:World)(x:Value)(w':World):Prop:=∃v,x=.tuple #[v,.bool true]∧w'.ownsRow w.heap.size 3 1 v 1 [int i64 1]∧Past w w'
theorem Pv(G M C gA p:Nat)(w:World)(hT:Xj w G M C)(hA:∃c e,w.heap[gA]? =some (.cells c e (0,0))∧∀x∈c.toList,∃n,x=int i64 n)(hc:pJ (Tb 0 G M C) (some ⟨gA,0,none⟩) w):jc 71 #[.agg (aA (Tb 0 G M C) (some ⟨gA,0,none⟩) 4 p)] w (RY w):=by
 obtain⟨w1,hw1⟩:∃w1,w1=w.alloc (.cells (aA (Tb 0 G M C) (some ⟨gA,0,none⟩) 4 p) 75):=zE
 have B1:Below w.heap.size w w1:=by rw[hw1];exact bw
 have X1:Whole w1 w.heap.size 75 (aA (Tb 0 G M C) (some ⟨gA,0,none⟩) 4 p):=by rw[hw1];exact Whole.new _ _ _
 have hpre:Na 4 w.heap.size XP w1:=by
  refine QB X1 (hT.of fun b hb=>B1.block b hb) ?_ (hc.below B1)
  obtain⟨c,e,h1,h2⟩:=hA
  exact⟨c,e,(B1.block _ (Array.getElem?_eq_some_iff.1 h1).1).trans h1,h2⟩
 have HV:=hid (Rx w.heap.size XP w1 hpre Ph)
 have HB1:=hid B1
 clear hpre hT hA hc B1
 simp only[Tb,aA] at hw1 X1⊢
 have x4:w1.cell? ⟨w.heap.size,4,none⟩=some (.slice (some ⟨C,0,none⟩) 2 2):=X1.cell 4
 have hs1:w1.heap.size=w.heap.size+1:=by rw[hw1];simp
 have JH:=hid hs1
 have HW1:=hid hw1
 clear X1 hw1 hs1
 refine kM func71 rfl zs ?_
 simp only[ntmps71,List.size_toArray,List.length_cons,List.length_nil,Nat.reduceAdd,Nat.reduceSub,Array.replicate_succ,Array.replicate_zero,List.push_toArray,List.append_toArray,List.nil_append,List.cons_append]
 repeat refine aj.seq ?_
 refine aj.item ?_
 gi_wp2
 repeat refine aj.seq ?_
 rw[← HW1.out]
 refine aj.gJ 7 zD ?_
 simp only[List.take_succ_cons,List.take_zero]
 gi_wp2
 refine iJ rfl rfl rfl (enters_of func99 zk rfl) (Rc:=xq w1) (args:=#[int i64 4,fG w.heap.size]) (by simp only[List.map_toArray,List.map_cons,List.map_nil];rfl) HV.out ?_
 rintro v w2 ⟨⟨τ,hb2⟩,hown⟩
 have hb2':=hb2.size
 have yz:w1.heap.size≤w2.heap.size:=hb2'
 obtain⟨g,cap,rfl,hg1,hg2⟩:=hown.form zD
 have k0:w2.cell? ⟨g,0,none⟩=some (int i64 2):=by simpa [Addr.add] using hown.cells (g:=g) rfl 0 (int i64 2) rfl
 have k1:w2.cell? ⟨g,1,none⟩=some (int i64 3):=by simpa [Addr.add] using hown.cells (g:=g) rfl 1 (int i64 3) rfl
 have HL:=hid (Lp g cap w2 k0 k1 hg2)
 have HP:Hid (Past w1 w2):=hid ⟨τ,hb2⟩
 have HS2:=hid yz
 clear hb2 hb2' hown k0 k1 hg1 hg2 yz x4
 simp only[List.drop_succ_cons,List.drop_zero,Act.put,List.setIfInBounds_toArray,List.set_cons_succ,List.set_cons_zero]
 gi_wp2_with (gi_at_call 95;refine HL.out.mono ?_;rintro e w3 ⟨v3,rfl,hv3,hb3⟩)
 simp only[wH]
 gi_wp2
 refine⟨rfl,_,results_tmp2 rfl _ _ _,_,rfl,v3,rfl,bO hv3 (by have:=JH.out;have:=HS2.out;omega),Past.of HB1.out (HP.out.below hb3)⟩
def R6(w:World)(x:Value)(w':World):Prop:=∃v,x=.tuple #[v,int i64 0]∧w'.ownsRow w.heap.size 3 1 v 1 [int i64 1]∧Past w w'
theorem BR(G M C:Nat)(w:World)(hT:Xj w G M C)(h:(Tb 0 G M C).At w w.heap.size):jc 29 #[(Tb 0 G M C).val] w (R6 w):=by
 have hl4:(ak (Tb 0 G M C)).length=4:=by rw[wU];rfl
 have HO:=hid fun w h=>YZ (Tb 0 G M C) w h (kE 0 zD G M C) (Nat.le_refl 2)
 rw[hl4] at HO
 have HV:=hid fun gA p w hT hA hc=>Pv G M C gA p w hT hA hc
 have HA:=hid h
 have HT:=hid hT
 have fR:Hid (∀A w,pJ (Tb 0 G M C) A w→∀w',Below w.heap.size w w'→pJ (Tb 0 G M C) A w'):=hid fun A w h w' hb=>h.below hb
 clear h hT hl4
 simp only[Tb,Bk.val,Bk.cells,aA] at HO HV⊢
 refine kM func29 rfl zs ?_
 simp only[ntmps29,List.size_toArray,List.length_cons,List.length_nil,Nat.reduceAdd,Nat.reduceSub,Array.replicate_succ,Array.replicate_zero,List.push_toArray,List.append_toArray,List.nil_append,List.cons_append]
 repeat refine aj.seq ?_
 refine aj.item ?_
 gi_wp2
 repeat refine aj.seq ?_
 refine aj.item ?_
 gi_wp2_with (gi_at_call 37;refine(HO.out _ (HA.out.up (bw))).mono ?_;rintro e w2 ⟨A,p,rfl,hc2,hb2,hA2⟩)
 obtain⟨gA,rfl,hAi⟩:∃gA,A=some ⟨gA,0,none⟩∧∃c e,w2.heap[gA]? =some (.cells c e (0,0))∧∀x∈c.toList,∃n,x=int i64 n:=by
  obtain⟨ad,rfl,-,-⟩:=hc2.row (by show 0<(ak (Tb 0 G M C)).length;rw[wU];decide)
  obtain⟨-,h2,h3⟩:=hA2 ad rfl zD
  exact⟨ad.block,by rw[← h2],h3⟩
 have hw2:Below w.heap.size w w2:=Below.next (bw) hb2
 obtain⟨w3,hw3⟩:∃w3,w3=w2.alloc (.cells #[int i64 10,int i64 0,.slice (some ⟨G,0,none⟩) 2 2,.slice (some ⟨M,0,none⟩) 4 4,.slice (some ⟨C,0,none⟩) 2 2,.slice (some ⟨gA,0,none⟩) 4 p] 75):=zE
 have b23:Below w2.heap.size w2 w3:=by rw[hw3];exact bw
 have X3:Whole w3 w2.heap.size 75 #[int i64 10,int i64 0,.slice (some ⟨G,0,none⟩) 2 2,.slice (some ⟨M,0,none⟩) 4 4,.slice (some ⟨C,0,none⟩) 2 2,.slice (some ⟨gA,0,none⟩) 4 p]:=by rw[hw3];exact Whole.new _ _ _
 have Yz:Below w.heap.size w w3:=Below.next hw2 b23
 have sY:=hid (HV.out gA p w3 (HT.out.of fun b hb=>Yz.block b hb) (by
  obtain⟨c,e,h1,h2⟩:=hAi
  exact⟨c,e,(b23.block _ (Array.getElem?_eq_some_iff.1 h1).1).trans h1,h2⟩) (fR.out _ _ hc2 _ b23))
 have x0:=X3.cell 0
 have x1:=X3.cell 1
 have x2:=X3.cell 2
 have x3:=X3.cell 3
 have x4:=X3.cell 4
 have x5:=X3.cell 5
 have HB3:=hid Yz
 have MD:=hid Yz.size
 rw[← hw3]
 clear hw3 Yz X3 b23 hw2 hAi hA2 hc2 hb2
 repeat refine aj.seq ?_
 refine aj.item ?_
 gi_wp2
 repeat refine aj.seq ?_
 refine aj.cond_false rfl ?_
 refine aj.skip ?_
 repeat refine aj.seq ?_
 refine aj.gJ 1 zD ?_
 simp only[List.take_succ_cons,List.take_zero]
 gi_wp2
 refine iJ rfl rfl rfl (enters_of func71 zk rfl) (Rc:=RY w3) (args:=#[.agg #[int i64 10,int i64 0,.slice (some ⟨G,0,none⟩) 2 2,.slice (some ⟨M,0,none⟩) 4 4,.slice (some ⟨C,0,none⟩) 2 2,.slice (some ⟨gA,0,none⟩) 4 p]]) (by simp only[List.map_toArray,List.map_cons,List.map_nil];rfl) sY.out ?_
 rintro x w4 ⟨v,rfl,hown,hpast⟩
 obtain⟨g,cap,rfl,hg1,hg2⟩:=hown.form zD
 have Mn:=hid hown
 have Mo:=hid hpast
 clear hown hpast x0 x1 x2 x3 x4 x5 hg1 hg2
 simp only[List.drop_succ_cons,List.drop_zero,Act.put,List.setIfInBounds_toArray,List.set_cons_succ,List.set_cons_zero]
 gi_wp2
 simp only[wH]
 gi_wp2
 exact⟨rfl,_,results_tmp2 rfl _ _ _,_,rfl,_,rfl,bO Mn.out MD.out,Past.of HB3.out Mo.out⟩
end
section
open Go.RowKit Go.Maps
def SV(w:World)(v:Value)(l:List Int):Prop:=∃A p,v=.slice A l.length p∧Ints w w.heap.size A l.length (fun i=>l.getD i 0)
theorem SV.below{w w':World}{v:Value}{l:List Int}(h:SV w v l)(hb:Below w.heap.size w w'):SV w' v l:=by
 obtain⟨A,p,rfl,hi⟩:=h
 exact⟨A,p,rfl,(hi.below hb).more hb.size⟩
theorem SV.past{w w':World}{v:Value}{l:List Int}(h:SV w v l)(hb:Past w w'):SV w' v l:=by
 obtain⟨τ,hb⟩:=hb
 exact SV.below (w:=cu.on w τ) h hb
theorem SV.own{w:World}{base:Nat}{v:Value}{l:List Int}(h:w.ownsRow base 3 1 v l.length (l.map (int i64))):SV w v l:=by
 obtain⟨A,c,rfl⟩:=fV h
 exact⟨A,c,rfl,eH h⟩
section
variable(G M C:Nat)(w:World)(h:(Tb 1 G M C).At w w.heap.size)
include h
theorem lh:CallsIn FF 0 prog 11 #[(Tb 1 G M C).val] w fun e w'=>e=.returned (.tuple #[int i64 4,int i64 0])∧Below w.heap.size w w':=by
 have:=gG (Tb 1 G M C) w h (kE 1 zD G M C) (Nat.le_refl 2) (fF 1 G M C) (by rw[lH];decide)
 rw[lH] at this
 exact this
theorem mf:CallsIn FF 0 prog 19 #[(Tb 1 G M C).val,int i64 0,int i64 10] w fun e w'=>∃v,e=.returned (.tuple #[v,int i64 0])∧SV w' v [4,5]∧Below w.heap.size w w':=by
 refine(Ae (Tb 1 G M C) 0 10 w h (kE 1 zD G M C) (Nat.le_refl 2) (fF 1 G M C) (by rw[lH];decide) (by show 0<2;omega) (by show(10:Int)≤10;omega) (WA G M C) (fun x hx=>List.all_eq_true.1 (WC G M C) x hx)).mono ?_
 rintro e w' ⟨v,ss,rfl,hp,hown,hb⟩
 have hp':ss.Perm [4,5]:=by
  have hp2:ss.Perm (intKeys (mapD (fun h=>stk (Tb 1 G M C) h 10 4 0) (aB (Tb 1 G M C) (ak (Tb 1 G M C))))):=hp
  rwa[Wz] at hp2
 rw[m9 hp',hp'.length_eq] at hown
 exact⟨v,rfl,SV.own hown,hb⟩
theorem BV:CallsIn FF 0 prog 20 #[(Tb 1 G M C).val,int i64 3] w fun e w'=>∃v,e=.returned (.tuple #[v,int i64 0])∧SV w' v [0]∧Below w.heap.size w w':=by
 refine(BS (Tb 1 G M C) 3 w h (kE 1 zD G M C) (Nat.le_refl 2) (fF 1 G M C) (by rw[lH];decide) (by show 3<4;omega) (a8 G M C) (fun x hx=>List.all_eq_true.1 (a9 G M C) x hx)).mono ?_
 rintro e w' ⟨v,ss,rfl,hp,hown,hb⟩
 have hp':ss.Perm [0]:=by
  have hp2:ss.Perm (intKeys (mapD (fun h=>h.real 3) (aB (Tb 1 G M C) (ak (Tb 1 G M C))))):=hp
  rwa[a7] at hp2
 rw[CR hp',hp'.length_eq] at hown
 exact⟨v,rfl,SV.own hown,hb⟩
theorem TV:CallsIn FF 0 prog 21 #[(Tb 1 G M C).val,int i64 3] w fun e w'=>e=.returned (.tuple #[int i64 1,int i64 0])∧Below w.heap.size w w':=by
 have:=vP (Tb 1 G M C) 3 w h (kE 1 zD G M C) (Nat.le_refl 2) (fF 1 G M C) (by rw[lH];decide) (by show 3<4;omega) rfl
 rw[lH,DO] at this
 exact this
theorem TT:CallsIn FF 0 prog 21 #[(Tb 1 G M C).val,int i64 0] w fun e w'=>e=.returned (.tuple #[int i64 2,int i64 0])∧Below w.heap.size w w':=by
 have:=vP (Tb 1 G M C) 0 w h (kE 1 zD G M C) (Nat.le_refl 2) (fF 1 G M C) (by rw[lH];decide) (by show 0<4;omega) rfl
 rw[lH,DM] at this
 exact this
theorem mj:CallsIn FF 0 prog 22 #[(Tb 1 G M C).val,int i64 1,int i64 1,int i64 10] w fun e w'=>e=.returned (.tuple #[.agg #[int i64 0,int i64 1],int i64 0])∧Below w.heap.size w w':=by
 have:=Mx (Tb 1 G M C) 1 1 10 w h (kE 1 zD G M C) (Nat.le_refl 2) (fF 1 G M C) (by show 1<2;omega) (by show xW 1 10 1 10=true;decide)
 rw[show bM (fun h=>kQ (Tb 1 G M C) h 1 1 10 (Tb 1 G M C).nm) _=(0,1,true) from aE G M C] at this
 exact this
theorem b7:CallsIn FF 0 prog 23 #[(Tb 1 G M C).val,int i64 10] w fun e w'=>e=.returned (.tuple #[.agg #[int i64 30,int i64 35],int i64 0])∧Below w.heap.size w w':=by
 have:=oz (Tb 1 G M C) 10 w h (kE 1 zD G M C) (Nat.le_refl 2) (fF 1 G M C) (by show(10:Int)≤10;omega)
 rw[show bM (fun h=>eG (Tb 1 G M C) (stk (Tb 1 G M C) h (10:Nat) (Tb 1 G M C).nm) (Tb 1 G M C).ng) _=(30,35,true) from WE G M C] at this
 exact this
theorem YH:CallsIn FF 0 prog 24 #[(Tb 1 G M C).val,int i64 0,int i64 2] w fun e w'=>e=.returned (.tuple #[.agg #[int i64 2,int i64 2],int i64 0])∧Below w.heap.size w w':=by
 have:=Jr (Tb 1 G M C) 0 w h (kE 1 zD G M C) (Nat.le_refl 2) (fF 1 G M C) (by show 0<2;omega)
 rw[show bM (fun h=>IntKind.i64.wrap ((stk (Tb 1 G M C) h (Tb 1 G M C).dY (Tb 1 G M C).nm 0).tdiv 2)) _=(2,2,true) from Wy G M C] at this
 exact this
theorem ub(rA:Option Addr)(rc:Nat)(hr:Ints w w.heap.size rA 2 rates):CallsIn FF 0 prog 25 #[(Tb 1 G M C).val,.slice rA 2 rc,int i64 4] w fun e w'=>∃v,e=.returned (.tuple #[v,int i64 40,int i64 0])∧SV w' v [1,1]∧Below w.heap.size w w':=by
 refine(QV (Tb 1 G M C) rA 2 rc rates 4 w h (kE 1 zD G M C) (Nat.le_refl 2) (fF 1 G M C) hr rfl (bj G M C) (fun k hk=>by
  have hk:k<2:=hk
  rcases(show k=0∨k=1 by omega) with rfl|rfl <;> exact of_decide_eq_true zk) (fun i hi=>by
  rcases(show i=0∨i=1 by omega) with rfl|rfl <;> decide) zD).mono ?_
 rintro e w' ⟨v,rfl,hown,hb⟩
 rw[show xJ (Tb 1 G M C) rates 4 (Tb 1 G M C).ng=40 from ax G M C]
 rw[show xH (Tb 1 G M C) rates 4 (Tb 1 G M C).ng=[1,1] from aw G M C] at hown
 exact⟨v,rfl,SV.own hown,hb⟩
theorem XQ:CallsIn FF 0 prog 26 #[(Tb 1 G M C).val] w fun e w'=>∃v,e=.returned (.tuple #[v,int i64 0])∧SV w' v [3]∧Below w.heap.size w w':=by
 refine(Jq (Tb 1 G M C) 8 w h (kE 1 zD G M C) (Nat.le_refl 2) (fF 1 G M C) (ox G M C) zD).mono ?_
 rintro e w' ⟨v,rfl,hown,hb⟩
 rw[show aM 8 10=[3] from zD] at hown
 exact⟨v,rfl,SV.own hown,hb⟩
theorem m3(A1 A2 A3:Option Addr)(p1 p2 p3:Nat)(h1:Ints w w.heap.size A1 2 (fun i=>[3,5].getD i 0))(h2:Ints w w.heap.size A2 4 (fun i=>[4,2,0,10].getD i 0))(h3:Ints w w.heap.size A3 1 (fun i=>[3].getD i 0)):
 CallsIn FF 0 prog 18 #[(Tb 1 G M C).val,.slice A1 2 p1,.slice A2 4 p2,.slice A3 1 p3] w fun e w'=>∃v v',e=.returned (.tuple #[v,v',int i64 0])∧SV w' v [5,5]∧SV w' v' [3,5]∧Below w.heap.size w w':=by
 have hp:wY (Tb 1 G M C) [3,5] [4,2,0,10] [3]:=by
  refine⟨rfl,rfl,zD,zD,zD,fun x hx=>?_⟩
  simp at hx
  subst hx
  exact⟨3,rfl,by show 3<4;omega,rfl⟩
 refine(m4 (Tb 1 G M C) [3,5] [4,2,0,10] [3] w (kE 1 zD G M C) (Nat.le_refl 2) hp h A1 A2 A3 p1 p2 p3 h1 h2 h3).mono ?_
 rintro e w' ⟨A,p,A',p',rfl,hi,hi',hb⟩
 have l0:EW (Tb 1 G M C) [3,5] [4,2,0,10] [3] 0=5:=zk
 have l1:EW (Tb 1 G M C) [3,5] [4,2,0,10] [3] 1=5:=zk
 have m0:NZ (Tb 1 G M C) [3,5] [4,2,0,10] [3] 0=3:=zk
 have m1:NZ (Tb 1 G M C) [3,5] [4,2,0,10] [3] 1=5:=zk
 have ui:∀ {A:Option Addr} {f f':Nat→Int},Ints w' w'.heap.size A 2 f→(∀i,i<2→f i=f' i)→Ints w' w'.heap.size A 2 f':=fun hi he hn=>by
  obtain⟨ad,e,h1,h2⟩:=hi hn
  exact⟨ad,e,h1,fun i j hi hj=>by rw[h2 i j hi hj];show some (int i64 (_:Int))=some (int i64 _);rw[he i hi]⟩
 refine⟨_,_,rfl,⟨A,p,rfl,ui hi fun i hi=>?_⟩,⟨A',p',rfl,ui hi' fun i hi=>?_⟩,hb⟩
 ·rcases(show i=0∨i=1 by omega) with rfl|rfl
  ·exact l0
  ·exact l1
 ·rcases(show i=0∨i=1 by omega) with rfl|rfl
  ·exact m0
  ·exact m1
end
end
end Go.Proofs.YtpmafoalhnaokaaGreat
