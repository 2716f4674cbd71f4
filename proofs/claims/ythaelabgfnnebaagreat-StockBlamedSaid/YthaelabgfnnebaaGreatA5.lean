/- P10 P11 P12 P13 P18 WP12 WP13 WP18 -/
import Derived.Test.YthaelabgfnnebaaGreatA4
set_option maxRecDepth 100000
set_option maxHeartbeats 16000000
set_option linter.unusedVariables false
set_option linter.unusedSectionVars false
open Go.IntKind(i64)
open Go.Lib(hid)
open Go.Proofs.Tryz
open Go.Value(int)
namespace Go.Proofs.YthaelabgfnnebaaGreat
section
open Go.RowKit
theorem JA(xs:Nat→Int)(A:Option Addr)(n p:Nat)(top:Int)(w:World)(hI:Ints w w.heap.size A n xs)(hn:n≤maxLen)(hx:∀i,i<n→0≤xs i∧xs i≤top):CallsIn FF 0 prog 34 #[.slice A n p,int i64 n,int i64 top] w fun e w'=>e=.returned (int i64 0)∧Below w.heap.size w w':=by
 unfold maxLen at hn
 have HI:=hid hI
 have Hx:=hid hx
 clear hI hx
 gi_enter func34,ntmps34
 gi_wp2
 gi_loopw [15] (fun i wr=>∃k:Nat,k≤n∧i=int i64 k∧wr=w) (fun i _=>n - (intOf i).toNat)
 case atStart=>exact⟨0,Nat.zero_le _,rfl,rfl⟩
 case round=>
  obtain⟨k,hk,rfl,rfl⟩:=hrel
  by_cases hlt:k<n
  ·obtain⟨ad,rfl,-⟩:=HI.out (show 0<n by omega)
   have ck:=Ints.at_ HI.out hlt
   have ik:=hid (bI.2 (Hx.out k hlt))
   gi_wp2_with (gi_at_call 35;refine(dh _ _ _ _).mono ?_;rintro e w' ⟨he,rfl⟩;rw[ik.out] at he;subst he)
   go_roundw
   case rel=>exact⟨k+1,zo,by go_num,trivial⟩
   case measure=>simp[intOf];omega
  ·gi_wp2
   go_ret
   exact⟨rfl,Below.refl _ _⟩
theorem TM(xs:Nat→Int)(A:Option Addr)(n p M:Nat)(w:World)(hI:Ints w w.heap.size A n xs)(hn:n≤maxLen)(hM:M≤maxLen)(hx:∀i,i<n→0≤xs i∧xs i≤(M:Int) - 1)(hup:∀i,i+1<n→xs i<xs (i+1)):CallsIn FF 0 prog 121 #[.slice A n p,int i64 M] w fun e w'=>e=.returned (int i64 0)∧Below w.heap.size w w':=by
 unfold maxLen at hn hM
 have HI:=hid hI
 have Hx:=hid hx
 have Hu:=hid hup
 clear hI hx hup
 have eM:IntKind.i64.wrap ((M:Int) - 1)=(M:Int) - 1:=IntWalk.i64_in _ zo
 gi_enter func121,ntmps121
 gi_wp2
 gi_loopw [9] (fun i wr=>∃k:Nat,k≤n∧i=int i64 k∧wr=w) (fun i _=>n - (intOf i).toNat)
 case atStart=>exact⟨0,Nat.zero_le _,rfl,rfl⟩
 case round=>
  obtain⟨k,hk,rfl,rfl⟩:=hrel
  by_cases hlt:k<n
  ·obtain⟨ad,rfl,-⟩:=HI.out (show 0<n by omega)
   have ck:=Ints.at_ HI.out hlt
   have ik:=hid (bI.2 (Hx.out k hlt))
   by_cases hk0:0<k
   ·have hd:decide (0<(k:Int))=true:=zm
    have cj:=Ints.at_ HI.out (show k - 1<n by omega)
    have hu:=Hu.out (k - 1) zo
    rw[show k - 1+1=k by omega] at hu
    have hd2:decide (xs k≤xs (k - 1))=false:=decide_eq_false zo
    have e2:0≤(k:Int) - 1:=zo
    have e2':1≤(k:Int):=zo
    have e4:(k:Int) - 1<n:=zo
    have e3:((k:Int) - 1).toNat=k - 1:=zo
    have e1:IntKind.i64.wrap ((k:Int) - 1)=(k:Int) - 1:=IntWalk.i64_in _ zo
    gi_wp2_with (gi_at_call 35;refine(dh _ _ _ _).mono ?_;rintro e w' ⟨he,rfl⟩;rw[ik.out] at he;subst he)
    all_goals first
     | exact⟨⟨k+1,zo,by go_num,trivial⟩,by simp[intOf];omega⟩
     | (go_roundw
        case rel=>exact⟨k+1,zo,by go_num,trivial⟩
        case measure=>simp[intOf];omega)
   ·have hd:decide (0<(k:Int))=false:=zm
    gi_wp2_with (first|(exact absurd ‹some undef=some (Value.bool _)› (by simp[undef]))|(gi_at_call 35;refine(dh _ _ _ _).mono ?_;rintro e w' ⟨he,rfl⟩;rw[ik.out] at he;subst he))
    all_goals first
     | exact⟨⟨k+1,zo,by go_num,trivial⟩,by simp[intOf];omega⟩
     | (go_roundw
        case rel=>exact⟨k+1,zo,by go_num,trivial⟩
        case measure=>simp[intOf];omega)
  ·gi_wp2
   go_ret
   exact⟨rfl,Below.refl _ _⟩
def bn(b:Bk)(k:Nat):List Int:=((List.range k).filter fun i=>decide ((b.m i).kind=0)).map fun(n:Nat)=>(n:Int)
theorem rP(b:Bk)(k:Nat):bn b (k+1)=bn b k ++ if (b.m k).kind=0 then[(k:Int)] else[]:=by
 unfold bn
 rw[List.range_succ,List.filter_append,List.map_append]
 by_cases h:(b.m k).kind=0 <;> simp[h]
theorem kJ(b:Bk)(k:Nat):(bn b k).length≤k:=by
 unfold bn
 rw[List.length_map]
 exact Nat.le_trans (List.length_filter_le _ _) zs
theorem Xm(b:Bk)(w:World)(h:b.At w w.heap.size)(hm:b.nm≤6):CallsIn FF 0 prog 115 #[b.val] w fun e w'=>∃v,e=.returned v∧w'.ownsRow w.heap.size 3 1 v (bn b b.nm).length ((bn b b.nm).map (int i64))∧Below w.heap.size w w':=by
 obtain⟨days,most,gA,ng,gc,g,mA,nm,mc,m,cA,nc,cc,c⟩:=b
 simp only[Bk.val,Bk.cells]
 simp only at hm
 have Hh:=hid h
 clear h
 obtain⟨i0,hi,hz0,hz1,hz2⟩:=info_parts info3
 have hi0:=hid hi
 clear hi
 gi_enter func115,ntmps115
 gi_wp2
 gi_loopw [3,9] (fun l i wr=>∃k:Nat,k≤nm∧i=int i64 k∧Hid (wr.ownsRow (w.heap.size+1) 3 1 l (bn ⟨days,most,gA,ng,gc,g,mA,nm,mc,m,cA,nc,cc,c⟩ k).length ((bn ⟨days,most,gA,ng,gc,g,mA,nm,mc,m,cA,nc,cc,c⟩ k).map (int i64))∧Below (w.heap.size+1) (w.alloc (.cells #[int i64 days,int i64 most,.slice gA ng gc,.slice mA nm mc,.slice cA nc cc] 74)) wr)) (fun _ i _=>nm - (intOf i).toNat)
 case atStart=>exact⟨0,Nat.zero_le _,rfl,hid ⟨jl _ (w.heap.size+1) 3,Below.refl _ _⟩⟩
 case round=>
  obtain⟨k,hk,rfl,hR⟩:=hrel
  obtain⟨A,n,cp,rfl⟩:=eX hR.out.1
  have hsz:w.heap.size+1≤wr.heap.size:=by have:=hR.out.2.size;simpa using this
  have Sq:w.heap.size<wr.heap.size:=hsz
  have hbx:∀o,wr.cell? ⟨w.heap.size,o,none⟩=(w.alloc (.cells #[int i64 days,int i64 most,.slice gA ng gc,.slice mA nm mc,.slice cA nc cc] 74)).cell? ⟨w.heap.size,o,none⟩:=fun o=>hR.out.2.cell (p:=⟨w.heap.size,o,none⟩) zs
  by_cases hlt:k<nm
  ·obtain⟨wo,rfl⟩:∃wo:World,wo=wr:=⟨_,rfl⟩
   have hN:CallsIn FF 0 prog 58 #[.agg #[int i64 days,int i64 most,.slice gA ng gc,.slice mA nm mc,.slice cA nc cc],int i64 k] wo fun e w'=>e=.returned (.bool (decide ((m k).kind=0)))∧Below wo.heap.size wo w':=sW ⟨days,most,gA,ng,gc,g,mA,nm,mc,m,cA,nc,cc,c⟩ k wo ((((Hh.out.alloc (Nat.le_refl _) (.cells #[int i64 days,int i64 most,.slice gA ng gc,.slice mA nm mc,.slice cA nc cc] 74)).more (Nat.le_succ _)).below hR.out.2).more hsz) hlt
   have e4:=rP ⟨days,most,gA,ng,gc,g,mA,nm,mc,m,cA,nc,cc,c⟩ k
   have hle:=kJ ⟨days,most,gA,ng,gc,g,mA,nm,mc,m,cA,nc,cc,c⟩ k
   simp only at e4
   by_cases hz:(m k).kind=0
   ·rw[decide_eq_true hz] at hN
    rw[if_pos hz] at e4
    have E4:=hid e4
    clear e4
    gi_wp2_with (first
     | (gi_at_call 58;refine hN.mono ?_;rintro e w3 ⟨rfl,hb3⟩;have HB3:=hid hb3;have Ho:=hid (own_below hR.out.1 hb3);have hs3:=hb3.size;clear hb3)
     | (gi_at_builtin;refine aF rfl rfl rfl fun K5 iX=>?_;refine wp_append_lies _ _ _ _ rfl (w.heap.size+1) 3 i0 _ 1 8 underlying30 hi0.out hz0 hz1 hz2 rfl zo (.slice A n cp) (bn ⟨days,most,gA,ng,gc,g,mA,nm,mc,m,cA,nc,cc,c⟩ k).length _ rfl (aQ Ho.out _) ⟨w3.heap.size,0,none⟩ 1 1 [_] rfl rfl (World.news_of_block (heap_alloc_new w3 _)) (by simp[Value.oneCell']) zo zU zo zm (w3.heap.size+1) zs ?_;intro pz nD w5 hown5 aM lG nI;refine iX _ _ ?_;clear iX K5))
    go_roundw
    case rel=>exact⟨k+1,zo,by go_num,hid ⟨by rw[E4.out,List.length_append,List.map_append];exact hown5,((hR.out.2.trans (HB3.out.mono hsz)).alloc zo _).trans (below_grown aM zm (fun g hg=>(bR Ho.out hg).1))⟩⟩
    case measure=>simp[intOf];omega
   ·rw[decide_eq_false hz] at hN
    rw[if_neg hz,List.append_nil] at e4
    gi_wp2_with (gi_at_call 58;refine hN.mono ?_;rintro e w3 ⟨rfl,hb3⟩)
    go_roundw
    case rel=>exact⟨k+1,zo,by go_num,hid ⟨by rw[e4];exact own_below hR.out.1 hb3,hR.out.2.trans (hb3.mono hsz)⟩⟩
    case measure=>simp[intOf];omega
  ·obtain rfl:k=nm:=zo
   gi_wp2
   go_ret
   exact⟨_,rfl,dP hR.out.1 (Nat.le_succ _),((Below.refl _ _).alloc (Nat.le_refl _) _).trans (hR.out.2.mono zs)⟩
theorem Oh(xs:Nat→Int)(A:Option Addr)(n p j:Nat)(w:World)(hI:Ints w w.heap.size A n xs)(hn:n≤maxLen)(hj:j<n)(hne:∀i,i<j→xs i≠xs j):CallsIn FF 0 prog 116 #[.slice A n p,int i64 (xs j)] w fun e w'=>e=.returned (int i64 j)∧Below w.heap.size w w':=by
 unfold maxLen at hn
 have HI:=hid hI
 have Hx:=hid hne
 clear hI hne
 obtain⟨x,hx⟩:∃x,x=xs j:=⟨_,rfl⟩
 have HX:=hid hx
 rw[← hx]
 clear hx
 gi_enter func116,ntmps116
 gi_wp2
 gi_loopw [8] (fun i wr=>∃k:Nat,k≤j∧i=int i64 k∧wr=w) (fun i _=>n - (intOf i).toNat)
 case atStart=>exact⟨0,Nat.zero_le _,rfl,rfl⟩
 case round=>
  obtain⟨k,hk,rfl,rfl⟩:=hrel
  have hlt:k<n:=zo
  obtain⟨ad,rfl,-⟩:=HI.out (show 0<n by omega)
  have ck:=Ints.at_ HI.out hlt
  by_cases he:k=j
  ·subst he
   have hq:(x == xs k)=true:=by rw[HX.out];simp
   gi_wp2
   all_goals first
    | (go_ret;exact⟨rfl,Below.refl _ _⟩)
    | (exfalso;have:=HX.out;omega)
  ·have hne:x≠xs k:=by rw[HX.out];exact fun e=>Hx.out k zo e.symm
   have hq:(x == xs k)=false:=by simpa using hne
   gi_wp2
   all_goals first
    | exact⟨⟨k+1,zo,by go_num,trivial⟩,by simp[intOf];omega⟩
    | (go_roundw
       case rel=>exact⟨k+1,zo,by go_num,trivial⟩
       case measure=>simp[intOf];omega)
    | (exfalso;omega)
structure Ht where
 f:Nat→Int
 m:Nat→Int
 lies:Nat
def Ht.cells(h:Ht):Array Value:=#[int i64 (h.f 0),int i64 (h.f 1),int i64 (h.f 2),int i64 (h.m 0),int i64 (h.m 1),int i64 (h.m 2),int i64 (h.m 3),int i64 (h.m 4),int i64 (h.m 5),int i64 h.lies]
def Ht.val(h:Ht):Value:=.agg h.cells
def Ht.BP(h:Ht)(k:Nat):Bool:=decide (h.lies / 2 ^ k % 2=1)
def Ht.real(h:Ht)(k:Nat):Int:=if h.BP k then 0 else h.m k
def xw:Array Value:=#[.string {data:=#[99,97,109,101] },.func (.func 130) #[] #[],.string {data:=#[115,111,108,100] },.func (.func 131) #[] #[],.string {data:=#[108,111,115,116] },.func (.func 131) #[] #[],.string {data:=#[103,105,118,101,110] },.func (.func 131) #[] #[],.string {data:=#[98,97,99,107] },.func (.func 130) #[] #[]]
end
section
open Go.RowKit Go.Sort
theorem Ta{kd:Int}(h:0≤kd∧kd≤4):∃ (x:ByteArray) (f:Nat),((f=130∧(kd=0∨kd=4))∨(f=131∧¬ (kd=0∨kd=4)))∧∀w:World,(Instr.index 150 (.agg xw) (int i64 kd)).run prog w=.ok (.agg #[.string x,.func (.func f) #[] #[]]) w∧(Instr.field 149 (.agg #[.string x,.func (.func f) #[] #[]]) 1).run prog w=.ok (.func (.func f) #[] #[]) w:=by
 rcases(show kd=0∨kd=1∨kd=2∨kd=3∨kd=4 by omega) with rfl|rfl|rfl|rfl|rfl
 ·exact⟨{data:=#[99,97,109,101] },_,.inl ⟨rfl,zD⟩,fun _=>⟨zk,zk⟩⟩
 ·exact⟨{data:=#[115,111,108,100] },_,.inr ⟨rfl,zD⟩,fun _=>⟨zk,zk⟩⟩
 ·exact⟨{data:=#[108,111,115,116] },_,.inr ⟨rfl,zD⟩,fun _=>⟨zk,zk⟩⟩
 ·exact⟨{data:=#[103,105,118,101,110] },_,.inr ⟨rfl,zD⟩,fun _=>⟨zk,zk⟩⟩
 ·exact⟨{data:=#[98,97,99,107] },_,.inl ⟨rfl,zD⟩,fun _=>⟨zk,zk⟩⟩
def lY(s:Nat→Int):Value:=.agg #[int i64 (s 0),int i64 (s 1),int i64 (s 2)]
def Zl(b:Bk)(h:Ht)(k:Nat):Int:=if (b.m k).kind=0∨(b.m k).kind=4 then h.real k else - h.real k
def uU(b:Bk)(s:Nat→Int)(h:Ht)(k:Nat)(g:Nat):Int:=if (b.m k).good=(g:Int) then s g+Zl b h k else s g
end
end Go.Proofs.YthaelabgfnnebaaGreat
namespace Go.Proofs.YthaelabgfnnebaaGreat.W
open Go.RowKit
theorem oz(h:Ht)(k:Nat)(w:World)(hl:h.lies<64)(hk:k<6):CallsIn SF 0 prog 61 #[h.val,int i64 k] w fun e w'=>e=.returned (.bool (h.BP k))∧Below w.heap.size w w':=by
 obtain⟨f,m,lies⟩:=h
 simp only at hl
 simp only[Ht.val,Ht.cells,Ht.BP]
 have e1:(lies:Int) / 2 ^ k=((lies / 2 ^ k:Nat):Int):=by push_cast;rfl
 have hle:lies / 2 ^ k≤lies:=Nat.div_le_self _ _
 have c2:bits BinOp.and IntKind.i64 ((lies:Int) / 2 ^ k) 1=((lies / 2 ^ k % 2:Nat):Int):=by rw[e1];exact and_one _ zo
 have c3:(bits BinOp.and IntKind.i64 ((lies:Int) / 2 ^ k) 1 == 1)=decide (lies / 2 ^ k % 2=1):=by
  rw[c2]
  by_cases h:lies / 2 ^ k % 2=1
  ·rw[h];rfl
  ·rw[decide_eq_false h];exact beq_eq_false_iff_ne.2 (fun e=>h (by exact_mod_cast e))
 clear c2 e1 hle
 have em:min k 64=k:=Nat.min_eq_left zo
 have C3:=hid c3
 clear c3
 gi_enter func61,ntmps61
 gi_wp2
 all_goals (go_ret;refine⟨?_,bw⟩;first|exact congrArg Ending.returned (congrArg Value.bool C3.out)|(rw[← C3.out,← em];simp)|trace_state)
theorem nP(h:Ht)(k:Nat)(w:World)(hl:h.lies<64)(hk:k<6):CallsIn SF 0 prog 57 #[h.val,int i64 k] w fun e w'=>e=.returned (int i64 (h.real k))∧Below w.heap.size w w':=by
 obtain⟨f,m,lies⟩:=h
 have hF:∀w,CallsIn SF 0 prog 61 #[.agg #[int i64 (f 0),int i64 (f 1),int i64 (f 2),int i64 (m 0),int i64 (m 1),int i64 (m 2),int i64 (m 3),int i64 (m 4),int i64 (m 5),int i64 lies],int i64 k] w fun e w'=>e=.returned (.bool ((⟨f,m,lies⟩:Ht).BP k))∧Below w.heap.size w w':=fun w=>oz ⟨f,m,lies⟩ k w hl hk
 simp only[Ht.val,Ht.cells,Ht.real]
 obtain⟨bb,hb⟩:∃bb,bb=(⟨f,m,lies⟩:Ht).BP k:=⟨_,rfl⟩
 rw[← hb] at hF⊢
 clear hb
 cases bb
 all_goals
  rcases(show k=0∨k=1∨k=2∨k=3∨k=4∨k=5 by omega) with rfl|rfl|rfl|rfl|rfl|rfl
 all_goals
  gi_enter func57,ntmps57
  gi_wp2_with (gi_at_call 61;refine(hF _).mono ?_;rintro e w2 ⟨rfl,hb2⟩;obtain⟨hc2,hf2⟩:=fF hb2;have hs2:w.heap.size<w2.heap.size:=by have:=hb2.size;simp at this;omega)
  go_ret
  exact⟨rfl,(bw:Below w.heap.size w _).trans (hb2.mono zs)⟩
end Go.Proofs.YthaelabgfnnebaaGreat.W
namespace Go.Proofs.YthaelabgfnnebaaGreat
open Go.RowKit
theorem oz(h:Ht)(k:Nat)(w:World)(hl:h.lies<64)(hk:k<6):CallsIn FF 0 prog 61 #[h.val,int i64 k] w fun e w'=>e=.returned (.bool (h.BP k))∧Below w.heap.size w w':=
 CallsIn.wider (W.oz h k w hl hk)
theorem nP(h:Ht)(k:Nat)(w:World)(hl:h.lies<64)(hk:k<6):CallsIn FF 0 prog 57 #[h.val,int i64 k] w fun e w'=>e=.returned (int i64 (h.real k))∧Below w.heap.size w w':=
 CallsIn.wider (W.nP h k w hl hk)
end Go.Proofs.YthaelabgfnnebaaGreat
namespace Go.Proofs.YthaelabgfnnebaaGreat.W
section
open Go.RowKit
theorem WY(w:World):CallsIn SF 0 prog 106 #[] w fun e w'=>e=.returned (.agg xw)∧Below w.heap.size w w':=by
 gi_enter func106,ntmps106
 gi_wp2
 refine bodyPost_ret (v:=.agg xw) (by simp[results,results106,go_sem,xw]) rfl ⟨rfl,?_⟩
 exact(Below.refl _ _).alloc (Nat.le_refl _) _
end
end Go.Proofs.YthaelabgfnnebaaGreat.W
namespace Go.Proofs.YthaelabgfnnebaaGreat.W
open Go.RowKit Go.Sort
theorem vE(b:Bk)(s:Nat→Int)(h:Ht)(k:Nat)(w:World)(hA:b.At w w.heap.size)(hk:k<b.nm)(ok:Mv.ok b k)(BK:b.ng≤3)(Sn:k<6)(hl:h.lies<64)
 (hs:∀g,g<3→-100000≤s g∧s g≤100000)(hm:-1000≤h.real k∧h.real k≤1000):
 CallsIn SF 0 prog 79 #[b.val,lY s,h.val,int i64 k] w fun e w'=>e=.returned (lY (uU b s h k))∧Below w.heap.size w w':=by
 obtain⟨days,most,gA,ng,gc,g,mA,nm,mc,m,cA,nc,cc,c⟩:=b
 obtain⟨hf,hmm,lies⟩:=h
 simp only at hk BK hl
 obtain⟨o1,o2,-,-,-⟩:=ok
 simp only at o1 o2
 have hnm:=hA.nm
 simp only at hnm
 unfold maxLen at hnm
 have hR:∀w,CallsIn SF 0 prog 57 #[.agg #[int i64 (hf 0),int i64 (hf 1),int i64 (hf 2),int i64 (hmm 0),int i64 (hmm 1),int i64 (hmm 2),int i64 (hmm 3),int i64 (hmm 4),int i64 (hmm 5),int i64 lies],int i64 k] w fun e w'=>e=.returned (int i64 ((⟨hf,hmm,lies⟩:Ht).real k))∧Below w.heap.size w w':=fun w=>nP ⟨hf,hmm,lies⟩ k w hl Sn
 obtain⟨rk,ez⟩:∃rk,rk=(⟨hf,hmm,lies⟩:Ht).real k:=⟨_,rfl⟩
 have hd:uU ⟨days,most,gA,ng,gc,g,mA,nm,mc,m,cA,nc,cc,c⟩ s ⟨hf,hmm,lies⟩ k=fun(q:Nat)=>if (m k).good=(q:Int) then s q+(if (m k).kind=0∨(m k).kind=4 then rk else - rk) else s q:=by
  funext q;unfold uU Zl;rw[ez]
 rw[hd]
 rw[← ez] at hR hm
 clear hd ez
 have hS0:=hs 0 zD
 have hS1:=hs 1 zD
 have hS2:=hs 2 zD
 clear hs
 obtain⟨ad,hA',hbl,-⟩:=hA.m (show 0<nm by omega)
 simp only at hA'
 subst hA'
 simp only[Bk.val,Bk.cells,Ht.val,Ht.cells,lY]
 have hr:=hid (hA.m.row hk)
 have hB5:=hbl
 have hM:∃mk:Mv,mk=m k:=⟨_,rfl⟩
 obtain⟨mk,hmk⟩:=hM
 rw[← hmk] at o1 o2⊢
 have HR:=hid (show ∀j,j<5→w.cell? ((ad.add (k * 5)).add j)=some (mk.cell j) by rw[hmk];exact hr.out.2)
 clear hr hmk hA
 obtain⟨kd,gd,dy,lo,hi⟩:=mk
 simp only at o1 o2⊢
 have hlt:(ad.add (k * 5)).block<w.heap.size:=by rw[aH];exact hbl
 obtain⟨z0,hz0⟩:∃z,z=s 0:=⟨_,rfl⟩
 obtain⟨z1,hz1⟩:∃z,z=s 1:=⟨_,rfl⟩
 obtain⟨z2,hz2⟩:∃z,z=s 2:=⟨_,rfl⟩
 simp only[← hz0,← hz1,← hz2] at hS0 hS1 hS2⊢
 clear hz0 hz1 hz2
 have e:∀j,j<5→((((w.alloc (.cells #[int i64 days,int i64 most,.slice gA ng gc,.slice (some ad) nm mc,.slice cA nc cc] 74)).alloc (.cells #[int i64 z0,int i64 z1,int i64 z2] 85)).alloc (.cells #[int i64 (hf 0),int i64 (hf 1),int i64 (hf 2),int i64 (hmm 0),int i64 (hmm 1),int i64 (hmm 2),int i64 (hmm 3),int i64 (hmm 4),int i64 (hmm 5),int i64 lies] 88)).alloc (.cells #[int i64 0,int i64 0,int i64 0] 85)).cell? ((ad.add (k * 5)).add j)=some ((⟨kd,gd,dy,lo,hi⟩:Mv).cell j):=fun j hj=>((bw:Below w.heap.size w ((((w.alloc (.cells #[int i64 days,int i64 most,.slice gA ng gc,.slice (some ad) nm mc,.slice cA nc cc] 74)).alloc (.cells #[int i64 z0,int i64 z1,int i64 z2] 85)).alloc (.cells #[int i64 (hf 0),int i64 (hf 1),int i64 (hf 2),int i64 (hmm 0),int i64 (hmm 1),int i64 (hmm 2),int i64 (hmm 3),int i64 (hmm 4),int i64 (hmm 5),int i64 lies] 88)).alloc (.cells #[int i64 0,int i64 0,int i64 0] 85))).cell (by rw[aH,aH];exact hbl)).trans (HR.out j hj)
 have c0:((((w.alloc (.cells #[int i64 days,int i64 most,.slice gA ng gc,.slice (some ad) nm mc,.slice cA nc cc] 74)).alloc (.cells #[int i64 z0,int i64 z1,int i64 z2] 85)).alloc (.cells #[int i64 (hf 0),int i64 (hf 1),int i64 (hf 2),int i64 (hmm 0),int i64 (hmm 1),int i64 (hmm 2),int i64 (hmm 3),int i64 (hmm 4),int i64 (hmm 5),int i64 lies] 88)).alloc (.cells #[int i64 0,int i64 0,int i64 0] 85)).cell? (ad.add (k * 5))=some (int i64 kd):=e 0 zD
 have c1:((((w.alloc (.cells #[int i64 days,int i64 most,.slice gA ng gc,.slice (some ad) nm mc,.slice cA nc cc] 74)).alloc (.cells #[int i64 z0,int i64 z1,int i64 z2] 85)).alloc (.cells #[int i64 (hf 0),int i64 (hf 1),int i64 (hf 2),int i64 (hmm 0),int i64 (hmm 1),int i64 (hmm 2),int i64 (hmm 3),int i64 (hmm 4),int i64 (hmm 5),int i64 lies] 88)).alloc (.cells #[int i64 0,int i64 0,int i64 0] 85)).cell? ⟨(ad.add (k * 5)).block,(ad.add (k * 5)).off+1,none⟩=some (int i64 gd):=e 1 zD
 have c2:((((w.alloc (.cells #[int i64 days,int i64 most,.slice gA ng gc,.slice (some ad) nm mc,.slice cA nc cc] 74)).alloc (.cells #[int i64 z0,int i64 z1,int i64 z2] 85)).alloc (.cells #[int i64 (hf 0),int i64 (hf 1),int i64 (hf 2),int i64 (hmm 0),int i64 (hmm 1),int i64 (hmm 2),int i64 (hmm 3),int i64 (hmm 4),int i64 (hmm 5),int i64 lies] 88)).alloc (.cells #[int i64 0,int i64 0,int i64 0] 85)).cell? ⟨(ad.add (k * 5)).block,(ad.add (k * 5)).off+2,none⟩=some (int i64 dy):=e 2 zD
 have c3:((((w.alloc (.cells #[int i64 days,int i64 most,.slice gA ng gc,.slice (some ad) nm mc,.slice cA nc cc] 74)).alloc (.cells #[int i64 z0,int i64 z1,int i64 z2] 85)).alloc (.cells #[int i64 (hf 0),int i64 (hf 1),int i64 (hf 2),int i64 (hmm 0),int i64 (hmm 1),int i64 (hmm 2),int i64 (hmm 3),int i64 (hmm 4),int i64 (hmm 5),int i64 lies] 88)).alloc (.cells #[int i64 0,int i64 0,int i64 0] 85)).cell? ⟨(ad.add (k * 5)).block,(ad.add (k * 5)).off+3,none⟩=some (int i64 lo):=e 3 zD
 have c4:((((w.alloc (.cells #[int i64 days,int i64 most,.slice gA ng gc,.slice (some ad) nm mc,.slice cA nc cc] 74)).alloc (.cells #[int i64 z0,int i64 z1,int i64 z2] 85)).alloc (.cells #[int i64 (hf 0),int i64 (hf 1),int i64 (hf 2),int i64 (hmm 0),int i64 (hmm 1),int i64 (hmm 2),int i64 (hmm 3),int i64 (hmm 4),int i64 (hmm 5),int i64 lies] 88)).alloc (.cells #[int i64 0,int i64 0,int i64 0] 85)).cell? ⟨(ad.add (k * 5)).block,(ad.add (k * 5)).off+4,none⟩=some (int i64 hi):=e 4 zD
 clear e
 gi_enter func79,ntmps79
 gi_wp2
 obtain⟨wq,hwq⟩:∃wq,wq=((((w.alloc (.cells #[int i64 days,int i64 most,.slice gA ng gc,.slice (some ad) nm mc,.slice cA nc cc] 74)).alloc (.cells #[int i64 z0,int i64 z1,int i64 z2] 85)).alloc (.cells #[int i64 (hf 0),int i64 (hf 1),int i64 (hf 2),int i64 (hmm 0),int i64 (hmm 1),int i64 (hmm 2),int i64 (hmm 3),int i64 (hmm 4),int i64 (hmm 5),int i64 lies] 88)).alloc (.cells #[int i64 0,int i64 0,int i64 0] 85)).alloc (.cells #[int i64 kd,int i64 gd,int i64 dy,int i64 lo,int i64 hi] 52):=⟨_,rfl⟩
 have hq1:Whole wq (w.heap.size+1) 85 #[int i64 z0,int i64 z1,int i64 z2]:=by
  have e:=((((Whole.new (w.alloc (.cells #[int i64 days,int i64 most,.slice gA ng gc,.slice (some ad) nm mc,.slice cA nc cc] 74)) 85 #[int i64 z0,int i64 z1,int i64 z2]).alloc (.cells #[int i64 (hf 0),int i64 (hf 1),int i64 (hf 2),int i64 (hmm 0),int i64 (hmm 1),int i64 (hmm 2),int i64 (hmm 3),int i64 (hmm 4),int i64 (hmm 5),int i64 lies] 88)).alloc (.cells #[int i64 0,int i64 0,int i64 0] 85)).alloc (.cells #[int i64 kd,int i64 gd,int i64 dy,int i64 lo,int i64 hi] 52))
  rw[hwq];simpa using e
 have hq2:Whole wq (w.heap.size+2) 88 #[int i64 (hf 0),int i64 (hf 1),int i64 (hf 2),int i64 (hmm 0),int i64 (hmm 1),int i64 (hmm 2),int i64 (hmm 3),int i64 (hmm 4),int i64 (hmm 5),int i64 lies]:=by
  have e:=((Whole.new ((w.alloc (.cells #[int i64 days,int i64 most,.slice gA ng gc,.slice (some ad) nm mc,.slice cA nc cc] 74)).alloc (.cells #[int i64 z0,int i64 z1,int i64 z2] 85)) 88 #[int i64 (hf 0),int i64 (hf 1),int i64 (hf 2),int i64 (hmm 0),int i64 (hmm 1),int i64 (hmm 2),int i64 (hmm 3),int i64 (hmm 4),int i64 (hmm 5),int i64 lies]).alloc (.cells #[int i64 0,int i64 0,int i64 0] 85)).alloc (.cells #[int i64 kd,int i64 gd,int i64 dy,int i64 lo,int i64 hi] 52)
  rw[hwq];simpa using e
 have hq3:Whole wq (w.heap.size+3) 85 #[int i64 0,int i64 0,int i64 0]:=by
  have e:=(Whole.new (((w.alloc (.cells #[int i64 days,int i64 most,.slice gA ng gc,.slice (some ad) nm mc,.slice cA nc cc] 74)).alloc (.cells #[int i64 z0,int i64 z1,int i64 z2] 85)).alloc (.cells #[int i64 (hf 0),int i64 (hf 1),int i64 (hf 2),int i64 (hmm 0),int i64 (hmm 1),int i64 (hmm 2),int i64 (hmm 3),int i64 (hmm 4),int i64 (hmm 5),int i64 lies] 88)) 85 #[int i64 0,int i64 0,int i64 0]).alloc (.cells #[int i64 kd,int i64 gd,int i64 dy,int i64 lo,int i64 hi] 52)
  rw[hwq];simpa using e
 have hq4:Whole wq (w.heap.size+4) 52 #[int i64 kd,int i64 gd,int i64 dy,int i64 lo,int i64 hi]:=by
  have e:=Whole.new ((((w.alloc (.cells #[int i64 days,int i64 most,.slice gA ng gc,.slice (some ad) nm mc,.slice cA nc cc] 74)).alloc (.cells #[int i64 z0,int i64 z1,int i64 z2] 85)).alloc (.cells #[int i64 (hf 0),int i64 (hf 1),int i64 (hf 2),int i64 (hmm 0),int i64 (hmm 1),int i64 (hmm 2),int i64 (hmm 3),int i64 (hmm 4),int i64 (hmm 5),int i64 lies] 88)).alloc (.cells #[int i64 0,int i64 0,int i64 0] 85)) 52 #[int i64 kd,int i64 gd,int i64 dy,int i64 lo,int i64 hi]
  rw[hwq];simpa using e
 have hbq:Below w.heap.size w wq:=by rw[hwq];exact bw
 have Hk:wq.heap.size=w.heap.size+5:=by rw[hwq];simp
 rw[← hwq]
 clear c0 c1 c2 c3 c4 hwq HR hlt hbl hB5
 have g2:Whole wq (w.heap.size+1+1) _ _:=hq2
 have g3:Whole wq (w.heap.size+1+1+1) _ _:=hq3
 have g4:Whole wq (w.heap.size+1+1+1+1) _ _:=hq4
 clear hq2 hq3 hq4
 have t1:w.heap.size+1<wq.heap.size:=zo
 have t2:w.heap.size+1+1<wq.heap.size:=zo
 have t3:w.heap.size+1+1+1<wq.heap.size:=zo
 have t4:w.heap.size+1+1+1+1<wq.heap.size:=zo
 have a0:=hq1.cell 0
 have a1:=hq1.cell 1
 have a2:=hq1.cell 2
 have af:=hq1.thaw
 have d0:=g4.cell 0
 have d1:=g4.cell 1
 have h0:=g2.cell 0
 have h1:=g2.cell 1
 have h2:=g2.cell 2
 have h3:=g2.cell 3
 have h4:=g2.cell 4
 have h5:=g2.cell 5
 have h6:=g2.cell 6
 have h7:=g2.cell 7
 have h8:=g2.cell 8
 have h9:=g2.cell 9
 obtain⟨xk,fk,dE,WI⟩:=Ta o1
 have hix:=fun w=>(WI w).1
 have hif:=fun w=>(WI w).2
 clear WI
 have jz:=hid hbq
 have YT:∀a b:Int,-100000≤a∧a≤100000→-1000≤b∧b≤1000→wrap64 (a+b)=a+b∧wrap64 (a - b)=a - b:=fun a b h1 h2=>⟨IntWalk.wrap64_in _ zo,IntWalk.wrap64_in _ zo⟩
 have US:=hid (YT _ _ hS0 hm)
 have UT:=hid (YT _ _ hS1 hm)
 have UX:=hid (YT _ _ hS2 hm)
 clear hbq YT hS0 hS1 hS2 hm
 have Is:=cell_regrown a0
 have It:=cell_regrown a1
 have Iv:=cell_regrown a2
 have IA:=cell_regrown d0
 have ID:=cell_regrown d1
 have IF:=cell_regrown h0
 have IH:=cell_regrown h1
 have IM:=cell_regrown h2
 have IN:=cell_regrown h3
 have IP:=cell_regrown h4
 have IS:=cell_regrown h5
 have IT:=cell_regrown h6
 have I0:=cell_regrown h7
 have Jn:=cell_regrown h8
 have JP:=cell_regrown h9
 have cK:∀d os,CallsIn SF 0 prog 106 #[] (grow (redrawn wq d) os) fun e w''=>e=.returned (.agg xw)∧∃p:Regrown,w''=grow (redrawn wq p.d) p.os:=fun d os=>CallsIn.regrown_of (WY _)
 have cR:∀d os,CallsIn SF 0 prog 57 #[.agg #[int i64 (hf 0),int i64 (hf 1),int i64 (hf 2),int i64 (hmm 0),int i64 (hmm 1),int i64 (hmm 2),int i64 (hmm 3),int i64 (hmm 4),int i64 (hmm 5),int i64 lies],int i64 k] (grow (redrawn wq d) os) fun e w''=>e=.returned (int i64 rk)∧∃p:Regrown,w''=grow (redrawn wq p.d) p.os:=fun d os=>CallsIn.regrown_of (hR _)
 have cM:∀x y d os,CallsIn SF 0 prog 130 #[int i64 x,int i64 y] (grow (redrawn wq d) os) fun e w''=>e=.returned (int i64 (wrap64 (x+y)))∧∃p:Regrown,w''=grow (redrawn wq p.d) p.os:=fun x y d os=>CallsIn.regrown_of ((fg x y _).mono fun e w' h=>⟨h.1,h.2 ▸ Below.refl _ _⟩)
 have cL:∀x y d os,CallsIn SF 0 prog 131 #[int i64 x,int i64 y] (grow (redrawn wq d) os) fun e w''=>e=.returned (int i64 (wrap64 (x - y)))∧∃p:Regrown,w''=grow (redrawn wq p.d) p.os:=fun x y d os=>CallsIn.regrown_of ((e8 x y _).mono fun e w' h=>⟨h.1,h.2 ▸ Below.refl _ _⟩)
 have Q1:=hid hq1
 have Q3:=hid g3
 clear a0 a1 a2 af d0 d1 h0 h1 h2 h3 h4 h5 h6 h7 h8 h9 t1 t2 t3 t4 hR hq1 g2 g3 g4
 have fin:∀ (zg u:Int) (f:Nat),(f=130∧(kd=0∨kd=4)∧u=zg+rk∨f=131∧¬ (kd=0∨kd=4)∧u=zg - rk)→wrap64 (zg+rk)=zg+rk∧wrap64 (zg - rk)=zg - rk→
  (∀d os,CallsIn SF 0 prog f #[int i64 zg,int i64 rk] (grow (redrawn wq d) os) fun e w''=>e=.returned (int i64 u)∧∃p:Regrown,w''=grow (redrawn wq p.d) p.os):=fun zg u f h hw d os=>by
  rcases h with⟨rfl,-,rfl⟩|⟨rfl,-,rfl⟩
  ·have:=cM zg rk d os;rwa[hw.1] at this
  ·have:=cL zg rk d os;rwa[hw.2] at this
 clear cM cL
 have hU:∀zg:Int,∃u,u=zg+(if kd=0∨kd=4 then rk else - rk)∧(fk=130∧(kd=0∨kd=4)∧u=zg+rk∨fk=131∧¬ (kd=0∨kd=4)∧u=zg - rk):=fun zg=>by
  rcases dE with⟨h1,h2⟩|⟨h1,h2⟩
  ·exact⟨_,rfl,.inl ⟨h1,h2,by rw[if_pos h2]⟩⟩
  ·exact⟨_,rfl,.inr ⟨h1,h2,by rw[if_neg h2];omega⟩⟩
 obtain⟨u0,hu0,hv0⟩:=hU z0
 obtain⟨u1,hu1,hv1⟩:=hU z1
 obtain⟨u2,hu2,hv2⟩:=hU z2
 have kv:=fin z0 u0 fk hv0 US.out
 have kx:=fin z1 u1 fk hv1 UT.out
 have ky:=fin z2 u2 fk hv2 UX.out
 have HU0:=hid hu0
 have HU1:=hid hu1
 have HU2:=hid hu2
 clear hU fin hv0 hv1 hv2 hu0 hu1 hu2 US UT UX
 have Fo:fk=130∨fk=131:=dE.imp (·.1) (·.1)
 clear dE
 rcases Fo with rfl|rfl
 all_goals
  rcases(show gd=0∨gd=1∨gd=2 by omega) with rfl|rfl|rfl
  all_goals clear o1 o2
  ·refine aK 16 rfl zk zk ?_
   simp only[List.take_succ_cons,List.take_zero,List.drop_succ_cons,List.drop_zero]
   repeat (quiet_step_in (first|exact cK _ _|exact cR _ _|exact kv _ _|exact kx _ _|exact ky _ _))
   refine wpQuietIn_nil ?_
   rintro w' ⟨⟨dq,osq⟩,rfl⟩
   have bD:=below_regrown wq dq osq
   clear IF IH IM IN IP IS IT I0 Jn JP Is It Iv IA ID cK cR kv kx ky hix hif
   generalize grow (redrawn wq dq) osq=w9 at bD⊢
   have W1:=Q1.out.below bD Q1.out.lt
   have W3:=Q3.out.below bD Q3.out.lt
   have x0:=W1.cell 0
   have x1:=W1.cell 1
   have x2:=W1.cell 2
   have xf:=W1.thaw
   have yc:=W3.cell
   have yf:=W3.thaw
   have l1:=W1.lt
   have l3:=W3.lt
   have V3:=hid W3
   have Ga:=hid (jz.out.trans (bD.mono zo))
   clear bD Q1 Q3 jz W1 W3 Hk hnm hl BK Sn hk
   rename_i Kr Qr hKr
   refine wpListIn_plain rfl (fun K hK=>?_)
   go_simp
   refine hK _ _ (wpListIn_nil (hKr _ _ ?_))
   clear hKr Kr hK K
   apply wpIn_seq_k
   intro K hK
   apply wpIn_region_lit
   refine wpListIn_plain rfl (fun K2 hK2=>?_)
   go_simp
   refine hK2 _ _ ?_
   clear hK2 K2
   refine wpListIn_plain rfl (fun K2 hK2=>?_)
   go_simp
   refine hK2 _ _ (wpListIn_nil (hK _ _ ?_))
   clear hK2 K2 hK K
   apply wpIn_ret
   have U0:=V3.out.other (p:=⟨w.heap.size+1,0,none⟩) zm (int i64 u0)
   have U3:=((U0.set 0 (int i64 u0)).set 1 (int i64 z1)).set 2 (int i64 z2)
   have q0:=U3.cell 0
   have q1:=U3.cell 1
   have q2:=U3.cell 2
   clear x0 x1 x2 xf yc yf l1 l3
   refine bodyPost_ret (v:=.agg #[int i64 u0,int i64 z1,int i64 z2]) (by simp[results,results79,go_sem,q0,q1,q2]) rfl ⟨?_,?_⟩
   ·rw[HU0.out];simp
   ·exact(((Ga.out.setCell (p:=⟨w.heap.size+1,0,none⟩) (Nat.le_succ _) _).setCell (p:=⟨w.heap.size+1+1+1,0,none⟩) (by show w.heap.size≤w.heap.size+1+1+1;omega) _).setCell (p:=⟨w.heap.size+1+1+1,1,none⟩) (by show w.heap.size≤w.heap.size+1+1+1;omega) _).setCell (p:=⟨w.heap.size+1+1+1,2,none⟩) (by show w.heap.size≤w.heap.size+1+1+1;omega) _
  ·refine aK 16 rfl zk zk ?_
   simp only[List.take_succ_cons,List.take_zero,List.drop_succ_cons,List.drop_zero]
   repeat (quiet_step_in (first|exact cK _ _|exact cR _ _|exact kv _ _|exact kx _ _|exact ky _ _))
   refine wpQuietIn_nil ?_
   rintro w' ⟨⟨dq,osq⟩,rfl⟩
   have bD:=below_regrown wq dq osq
   clear IF IH IM IN IP IS IT I0 Jn JP Is It Iv IA ID cK cR kv kx ky hix hif
   generalize grow (redrawn wq dq) osq=w9 at bD⊢
   have W1:=Q1.out.below bD Q1.out.lt
   have W3:=Q3.out.below bD Q3.out.lt
   have x0:=W1.cell 0
   have x1:=W1.cell 1
   have x2:=W1.cell 2
   have xf:=W1.thaw
   have yc:=W3.cell
   have yf:=W3.thaw
   have l1:=W1.lt
   have l3:=W3.lt
   have V3:=hid W3
   have Ga:=hid (jz.out.trans (bD.mono zo))
   clear bD Q1 Q3 jz W1 W3 Hk hnm hl BK Sn hk
   rename_i Kr Qr hKr
   refine wpListIn_plain rfl (fun K hK=>?_)
   go_simp
   refine hK _ _ (wpListIn_nil (hKr _ _ ?_))
   clear hKr Kr hK K
   apply wpIn_seq_k
   intro K hK
   apply wpIn_region_lit
   refine wpListIn_plain rfl (fun K2 hK2=>?_)
   go_simp
   refine hK2 _ _ ?_
   clear hK2 K2
   refine wpListIn_plain rfl (fun K2 hK2=>?_)
   go_simp
   refine hK2 _ _ (wpListIn_nil (hK _ _ ?_))
   clear hK2 K2 hK K
   apply wpIn_ret
   have U0:=V3.out.other (p:=⟨w.heap.size+1,1,none⟩) zm (int i64 u1)
   have U3:=((U0.set 0 (int i64 z0)).set 1 (int i64 u1)).set 2 (int i64 z2)
   have q0:=U3.cell 0
   have q1:=U3.cell 1
   have q2:=U3.cell 2
   clear x0 x1 x2 xf yc yf l1 l3
   refine bodyPost_ret (v:=.agg #[int i64 z0,int i64 u1,int i64 z2]) (by simp[results,results79,go_sem,q0,q1,q2]) rfl ⟨?_,?_⟩
   ·rw[HU1.out];simp
   ·exact(((Ga.out.setCell (p:=⟨w.heap.size+1,1,none⟩) (Nat.le_succ _) _).setCell (p:=⟨w.heap.size+1+1+1,0,none⟩) (by show w.heap.size≤w.heap.size+1+1+1;omega) _).setCell (p:=⟨w.heap.size+1+1+1,1,none⟩) (by show w.heap.size≤w.heap.size+1+1+1;omega) _).setCell (p:=⟨w.heap.size+1+1+1,2,none⟩) (by show w.heap.size≤w.heap.size+1+1+1;omega) _
  ·refine aK 16 rfl zk zk ?_
   simp only[List.take_succ_cons,List.take_zero,List.drop_succ_cons,List.drop_zero]
   repeat (quiet_step_in (first|exact cK _ _|exact cR _ _|exact kv _ _|exact kx _ _|exact ky _ _))
   refine wpQuietIn_nil ?_
   rintro w' ⟨⟨dq,osq⟩,rfl⟩
   have bD:=below_regrown wq dq osq
   clear IF IH IM IN IP IS IT I0 Jn JP Is It Iv IA ID cK cR kv kx ky hix hif
   generalize grow (redrawn wq dq) osq=w9 at bD⊢
   have W1:=Q1.out.below bD Q1.out.lt
   have W3:=Q3.out.below bD Q3.out.lt
   have x0:=W1.cell 0
   have x1:=W1.cell 1
   have x2:=W1.cell 2
   have xf:=W1.thaw
   have yc:=W3.cell
   have yf:=W3.thaw
   have l1:=W1.lt
   have l3:=W3.lt
   have V3:=hid W3
   have Ga:=hid (jz.out.trans (bD.mono zo))
   clear bD Q1 Q3 jz W1 W3 Hk hnm hl BK Sn hk
   rename_i Kr Qr hKr
   refine wpListIn_plain rfl (fun K hK=>?_)
   go_simp
   refine hK _ _ (wpListIn_nil (hKr _ _ ?_))
   clear hKr Kr hK K
   apply wpIn_seq_k
   intro K hK
   apply wpIn_region_lit
   refine wpListIn_plain rfl (fun K2 hK2=>?_)
   go_simp
   refine hK2 _ _ ?_
   clear hK2 K2
   refine wpListIn_plain rfl (fun K2 hK2=>?_)
   go_simp
   refine hK2 _ _ (wpListIn_nil (hK _ _ ?_))
   clear hK2 K2 hK K
   apply wpIn_ret
   have U0:=V3.out.other (p:=⟨w.heap.size+1,2,none⟩) zm (int i64 u2)
   have U3:=((U0.set 0 (int i64 z0)).set 1 (int i64 z1)).set 2 (int i64 u2)
   have q0:=U3.cell 0
   have q1:=U3.cell 1
   have q2:=U3.cell 2
   clear x0 x1 x2 xf yc yf l1 l3
   refine bodyPost_ret (v:=.agg #[int i64 z0,int i64 z1,int i64 u2]) (by simp[results,results79,go_sem,q0,q1,q2]) rfl ⟨?_,?_⟩
   ·rw[HU2.out];simp
   ·exact(((Ga.out.setCell (p:=⟨w.heap.size+1,2,none⟩) (Nat.le_succ _) _).setCell (p:=⟨w.heap.size+1+1+1,0,none⟩) (by show w.heap.size≤w.heap.size+1+1+1;omega) _).setCell (p:=⟨w.heap.size+1+1+1,1,none⟩) (by show w.heap.size≤w.heap.size+1+1+1;omega) _).setCell (p:=⟨w.heap.size+1+1+1,2,none⟩) (by show w.heap.size≤w.heap.size+1+1+1;omega) _
end Go.Proofs.YthaelabgfnnebaaGreat.W
namespace Go.Proofs.YthaelabgfnnebaaGreat
open Go.RowKit
theorem vE(b:Bk)(s:Nat→Int)(h:Ht)(k:Nat)(w:World)(hA:b.At w w.heap.size)(hk:k<b.nm)(ok:Mv.ok b k)(BK:b.ng≤3)(Sn:k<6)(hl:h.lies<64)
 (hs:∀g,g<3→-100000≤s g∧s g≤100000)(hm:-1000≤h.real k∧h.real k≤1000):
 CallsIn FF 0 prog 79 #[b.val,lY s,h.val,int i64 k] w fun e w'=>e=.returned (lY (uU b s h k))∧Below w.heap.size w w':=
 CallsIn.wider (W.vE b s h k w hA hk ok BK Sn hl hs hm)
end Go.Proofs.YthaelabgfnnebaaGreat
