/- P9 P10 P11 P12 P13 P18 WP12 WP13 -/
import Derived.Test.YthaelabgfnnebaaGreatA4
set_option maxRecDepth 100000
set_option maxHeartbeats 16000000
set_option linter.unusedVariables false
set_option linter.unusedSectionVars false
open Go.IntKind(i64)
open Go.Lib(hid)
open Go.Proofs.Tryz
open Go.Value(int)
namespace Go.Proofs.YthaelabgfnnebaaGreat
section
open Go.RowKit
def Bk.ZK(b:Bk)(A:Option Addr)(n p:Nat):Value:=.agg (b.cells ++ #[.slice A n p])
def Qj(b:Bk)(w:World)(e:Ending)(w':World):Prop:=∃A p,e=.returned (.tuple #[b.ZK A (bM b (2 ^ b.nm)).length p,int i64 0])∧
 w'.ownsRow w.heap.size 3 1 (.slice A (bM b (2 ^ b.nm)).length p) (bM b (2 ^ b.nm)).length ((bM b (2 ^ b.nm)).map (int i64))∧Below w.heap.size w w'
theorem dV{w:World}{base b:Nat}{e:TypeId}{v:Value}{size n:Nat}{l:List Value}(h:w.ownsRow base e size v n l)(hb:b≤base):w.ownsRow b e size v n l:=
 ⟨h.1,h.2.imp id fun⟨g,cap,cur,h1,h2,h3⟩=>⟨g,cap,cur,h1,Nat.le_trans hb h2,h3⟩⟩
theorem Sg(b:Bk)(w:World)(h:b.At w w.heap.size)(ok:b.Ok)(hcap:b.ng≤b.gc):CallsIn FF 0 prog 33 #[b.val] w (fun e w'=>∃A p,e=.returned (.tuple #[b.ZK A (bM b (2 ^ b.nm)).length p,int i64 0])∧w'.ownsRow w.heap.size 3 1 (.slice A (bM b (2 ^ b.nm)).length p) (bM b (2 ^ b.nm)).length ((bM b (2 ^ b.nm)).map (int i64))∧Below w.heap.size w w'∧jE w' (.slice A (bM b (2 ^ b.nm)).length p)):=by
 obtain⟨days,most,gA,ng,gc,g,mA,nm,mc,m,cA,nc,cc,c⟩:=b
 have hC:∀w,(⟨days,most,gA,ng,gc,g,mA,nm,mc,m,cA,nc,cc,c⟩:Bk).At w w.heap.size→CallsIn FF 0 prog 69 #[.agg #[int i64 days,int i64 most,.slice gA ng gc,.slice mA nm mc,.slice cA nc cc]] w fun e w'=>e=.returned (int i64 0)∧Below w.heap.size w w':=fun w h=>UQ ⟨days,most,gA,ng,gc,g,mA,nm,mc,m,cA,nc,cc,c⟩ w h ok hcap
 have hL:∀w,(⟨days,most,gA,ng,gc,g,mA,nm,mc,m,cA,nc,cc,c⟩:Bk).At w w.heap.size→CallsIn FF 0 prog 70 #[.agg #[int i64 days,int i64 most,.slice gA ng gc,.slice mA nm mc,.slice cA nc cc]] w fun e w'=>∃v,e=.returned v∧w'.ownsRow w.heap.size 3 1 v (bM ⟨days,most,gA,ng,gc,g,mA,nm,mc,m,cA,nc,cc,c⟩ (2 ^ nm)).length ((bM ⟨days,most,gA,ng,gc,g,mA,nm,mc,m,cA,nc,cc,c⟩ (2 ^ nm)).map (int i64))∧Below w.heap.size w w'∧jE w' v:=fun w h=>Mh ⟨days,most,gA,ng,gc,g,mA,nm,mc,m,cA,nc,cc,c⟩ w h ok.moves.1
 simp only[Bk.val,Bk.ZK,Bk.cells]
 have Hh:=hid h
 clear h ok hcap
 gi_enter func33,ntmps33
 gi_wp2_with (gi_at_call 69;refine(hC _ (Hh.out.below (bw) |>.more zm)).mono ?_;rintro e w2 ⟨rfl,hb2⟩;obtain⟨hc2,hf2⟩:=fq hb2;have hs2:w.heap.size+1<w2.heap.size:=by have:=hb2.size;simp at this;omega)
 have hW2:Below w.heap.size w w2:=(bw:Below w.heap.size w _).trans (hb2.mono zm)
 have hZ:Whole ((w.alloc (.cells #[int i64 days,int i64 most,.slice gA ng gc,.slice mA nm mc,.slice cA nc cc] 26)).alloc (.cells #[int i64 0,int i64 0,.slice none 0 0,.slice none 0 0,.slice none 0 0,.slice none 0 0] 76)) (w.heap.size+1) 76 #[int i64 0,int i64 0,.slice none 0 0,.slice none 0 0,.slice none 0 0,.slice none 0 0]:=by
  have e:=Whole.new (w.alloc (.cells #[int i64 days,int i64 most,.slice gA ng gc,.slice mA nm mc,.slice cA nc cc] 26)) 76 #[int i64 0,int i64 0,.slice none 0 0,.slice none 0 0,.slice none 0 0,.slice none 0 0]
  rwa[show(w.alloc (.cells #[int i64 days,int i64 most,.slice gA ng gc,.slice mA nm mc,.slice cA nc cc] 26)).heap.size=w.heap.size+1 by simp] at e
 have hZ2:Hid (Whole w2 (w.heap.size+1) 76 #[int i64 0,int i64 0,.slice none 0 0,.slice none 0 0,.slice none 0 0,.slice none 0 0]):=hid (hZ.below hb2 zs)
 clear hZ
 gi_region_with (gi_at_call 70;refine(hL _ (Hh.out.below (bw) |>.more zm)).mono ?_;rintro e w3 ⟨v,rfl,hown,hb3,yo⟩;obtain⟨A3,c3,rfl⟩:=fF hown;have ho3:=dV (b:=w2.heap.size) hown zs;clear hown;obtain⟨hc3,hf3⟩:=fq hb3;have hs3:w2.heap.size<w3.heap.size:=(by have:=hb3.size;simp at this;omega);have hw3:Below w2.heap.size w2 w3:=(bw:Below w2.heap.size w2 _).trans (hb3.mono zs);have hZ3:=(hZ2.out.below hw3 zo).cell;have TX:=(hZ2.out.below hw3 zo).thaw)
 all_goals
  gi_wp2
  have hF:=((((((hZ2.out.below hw3 zo).set 0 (int i64 days)).set 1 (int i64 most)).set 2 (.slice gA ng gc)).set 3 (.slice mA nm mc)).set 4 (.slice cA nc cc)).set 5 (.slice A3 (bM ⟨days,most,gA,ng,gc,g,mA,nm,mc,m,cA,nc,cc,c⟩ (2 ^ nm)).length c3)
  have q0:=hF.cell 0
  have q1:=hF.cell 1
  have q2:=hF.cell 2
  have q3:=hF.cell 3
  have q4:=hF.cell 4
  have q5:=hF.cell 5
  clear hZ3 TX hc3 hf3
  refine bodyPost_ret (v:=.tuple #[.agg #[int i64 days,int i64 most,.slice gA ng gc,.slice mA nm mc,.slice cA nc cc,.slice A3 (bM ⟨days,most,gA,ng,gc,g,mA,nm,mc,m,cA,nc,cc,c⟩ (2 ^ nm)).length c3],int i64 0]) (by simp[results,results33,go_sem,q0,q1,q2,q3,q4,q5]) rfl ⟨A3,c3,rfl,?_,?_,?_⟩
  ·refine dV (base:=w2.heap.size) ?_ zo
   refine ji ?_ hs2 _
   refine ji ?_ hs2 _
   refine ji ?_ hs2 _
   refine ji ?_ hs2 _
   refine ji ?_ hs2 _
   refine ji ?_ hs2 _
   exact ho3
  ·have aY:Below w.heap.size w w3:=hW2.trans (hw3.mono zo)
   refine Below.setCell ?_ (Nat.le_succ _) _
   refine Below.setCell ?_ (Nat.le_succ _) _
   refine Below.setCell ?_ (Nat.le_succ _) _
   refine Below.setCell ?_ (Nat.le_succ _) _
   refine Below.setCell ?_ (Nat.le_succ _) _
   refine Below.setCell ?_ (Nat.le_succ _) _
   exact aY
  ·have hne:∀q,(Value.slice A3 (bM ⟨days,most,gA,ng,gc,g,mA,nm,mc,m,cA,nc,cc,c⟩ (2 ^ nm)).length c3).ownBlock=some q→q≠w.heap.size+1:=fun q hq=>by have:=(dN ho3 hq).1;omega
   exact(((((yo.other hne _).other hne _).other hne _).other hne _).other hne _).other hne _
theorem Si(b:Bk)(w:World)(h:b.At w w.heap.size)(ok:b.Ok)(hcap:b.ng≤b.gc):CallsIn FF 0 prog 33 #[b.val] w (Qj b w):=
 (Sg b w h ok hcap).mono fun _ _ ⟨A,p,he,ho,hb,_⟩=>⟨A,p,he,ho,hb⟩
theorem IQ(xs:Nat→Int)(A:Option Addr)(n p:Nat)(top:Int)(w:World)(hI:Ints w w.heap.size A n xs)(hn:n≤maxLen)(hx:∀i,i<n→0≤xs i∧xs i≤top):CallsIn FF 0 prog 34 #[.slice A n p,int i64 n,int i64 top] w fun e w'=>e=.returned (int i64 0)∧Below w.heap.size w w':=by
 unfold maxLen at hn
 have HI:=hid hI
 have Hx:=hid hx
 clear hI hx
 gi_enter func34,ntmps34
 gi_wp2
 gi_loopw [15] (fun i wr=>∃k:Nat,k≤n∧i=int i64 k∧wr=w) (fun i _=>n - (intOf i).toNat)
 case atStart=>exact⟨0,Nat.zero_le _,rfl,rfl⟩
 case round=>
  obtain⟨k,hk,rfl,rfl⟩:=hrel
  by_cases hlt:k<n
  ·obtain⟨ad,rfl,-⟩:=HI.out (show 0<n by omega)
   have ck:=Ints.at_ HI.out hlt
   have ik:=hid (bF.2 (Hx.out k hlt))
   gi_wp2_with (gi_at_call 35;refine(bV _ _ _ _).mono ?_;rintro e w' ⟨he,rfl⟩;rw[ik.out] at he;subst he)
   go_roundw
   case rel=>exact⟨k+1,zo,by go_num,trivial⟩
   case measure=>simp[intOf];omega
  ·gi_wp2
   go_ret
   exact⟨rfl,Below.refl _ _⟩
theorem Sy(xs:Nat→Int)(A:Option Addr)(n p M:Nat)(w:World)(hI:Ints w w.heap.size A n xs)(hn:n≤maxLen)(hM:M≤maxLen)(hx:∀i,i<n→0≤xs i∧xs i≤(M:Int) - 1)(hup:∀i,i+1<n→xs i<xs (i+1)):CallsIn FF 0 prog 121 #[.slice A n p,int i64 M] w fun e w'=>e=.returned (int i64 0)∧Below w.heap.size w w':=by
 unfold maxLen at hn hM
 have HI:=hid hI
 have Hx:=hid hx
 have Hu:=hid hup
 clear hI hx hup
 have eM:IntKind.i64.wrap ((M:Int) - 1)=(M:Int) - 1:=IntWalk.i64_in _ zo
 gi_enter func121,ntmps121
 gi_wp2
 gi_loopw [9] (fun i wr=>∃k:Nat,k≤n∧i=int i64 k∧wr=w) (fun i _=>n - (intOf i).toNat)
 case atStart=>exact⟨0,Nat.zero_le _,rfl,rfl⟩
 case round=>
  obtain⟨k,hk,rfl,rfl⟩:=hrel
  by_cases hlt:k<n
  ·obtain⟨ad,rfl,-⟩:=HI.out (show 0<n by omega)
   have ck:=Ints.at_ HI.out hlt
   have ik:=hid (bF.2 (Hx.out k hlt))
   by_cases hk0:0<k
   ·have hd:decide (0<(k:Int))=true:=zm
    have cj:=Ints.at_ HI.out (show k - 1<n by omega)
    have hu:=Hu.out (k - 1) zo
    rw[show k - 1+1=k by omega] at hu
    have hd2:decide (xs k≤xs (k - 1))=false:=decide_eq_false zo
    have e2:0≤(k:Int) - 1:=zo
    have e2':1≤(k:Int):=zo
    have e4:(k:Int) - 1<n:=zo
    have e3:((k:Int) - 1).toNat=k - 1:=zo
    have e1:IntKind.i64.wrap ((k:Int) - 1)=(k:Int) - 1:=IntWalk.i64_in _ zo
    gi_wp2_with (gi_at_call 35;refine(bV _ _ _ _).mono ?_;rintro e w' ⟨he,rfl⟩;rw[ik.out] at he;subst he)
    all_goals first
     | exact⟨⟨k+1,zo,by go_num,trivial⟩,by simp[intOf];omega⟩
     | (go_roundw
        case rel=>exact⟨k+1,zo,by go_num,trivial⟩
        case measure=>simp[intOf];omega)
   ·have hd:decide (0<(k:Int))=false:=zm
    gi_wp2_with (first|(exact absurd ‹some undef=some (Value.bool _)› (by simp[undef]))|(gi_at_call 35;refine(bV _ _ _ _).mono ?_;rintro e w' ⟨he,rfl⟩;rw[ik.out] at he;subst he))
    all_goals first
     | exact⟨⟨k+1,zo,by go_num,trivial⟩,by simp[intOf];omega⟩
     | (go_roundw
        case rel=>exact⟨k+1,zo,by go_num,trivial⟩
        case measure=>simp[intOf];omega)
  ·gi_wp2
   go_ret
   exact⟨rfl,Below.refl _ _⟩
def dS(b:Bk)(k:Nat):List Int:=((List.range k).filter fun i=>decide ((b.m i).kind=0)).map fun(n:Nat)=>(n:Int)
theorem Dy(b:Bk)(k:Nat):dS b (k+1)=dS b k ++ if (b.m k).kind=0 then[(k:Int)] else[]:=by
 unfold dS
 rw[List.range_succ,List.filter_append,List.map_append]
 by_cases h:(b.m k).kind=0 <;> simp[h]
theorem uh(b:Bk)(k:Nat):(dS b k).length≤k:=by
 unfold dS
 rw[List.length_map]
 exact Nat.le_trans (List.length_filter_le _ _) zs
theorem VU(b:Bk)(w:World)(h:b.At w w.heap.size)(hm:b.nm≤6):CallsIn FF 0 prog 115 #[b.val] w fun e w'=>∃v,e=.returned v∧w'.ownsRow w.heap.size 3 1 v (dS b b.nm).length ((dS b b.nm).map (int i64))∧Below w.heap.size w w':=by
 obtain⟨days,most,gA,ng,gc,g,mA,nm,mc,m,cA,nc,cc,c⟩:=b
 simp only[Bk.val,Bk.cells]
 simp only at hm
 have Hh:=hid h
 clear h
 obtain⟨i0,hi,hz0,hz1,hz2⟩:=info_parts info3
 have hi0:=hid hi
 clear hi
 gi_enter func115,ntmps115
 gi_wp2
 gi_loopw [3,9] (fun l i wr=>∃k:Nat,k≤nm∧i=int i64 k∧Hid (wr.ownsRow (w.heap.size+1) 3 1 l (dS ⟨days,most,gA,ng,gc,g,mA,nm,mc,m,cA,nc,cc,c⟩ k).length ((dS ⟨days,most,gA,ng,gc,g,mA,nm,mc,m,cA,nc,cc,c⟩ k).map (int i64))∧Below (w.heap.size+1) (w.alloc (.cells #[int i64 days,int i64 most,.slice gA ng gc,.slice mA nm mc,.slice cA nc cc] 74)) wr)) (fun _ i _=>nm - (intOf i).toNat)
 case atStart=>exact⟨0,Nat.zero_le _,rfl,hid ⟨nX _ (w.heap.size+1) 3,Below.refl _ _⟩⟩
 case round=>
  obtain⟨k,hk,rfl,hR⟩:=hrel
  obtain⟨A,n,cp,rfl⟩:=gK hR.out.1
  have hsz:w.heap.size+1≤wr.heap.size:=by have:=hR.out.2.size;simpa using this
  have Vt:w.heap.size<wr.heap.size:=hsz
  have hbx:∀o,wr.cell? ⟨w.heap.size,o,none⟩=(w.alloc (.cells #[int i64 days,int i64 most,.slice gA ng gc,.slice mA nm mc,.slice cA nc cc] 74)).cell? ⟨w.heap.size,o,none⟩:=fun o=>hR.out.2.cell (p:=⟨w.heap.size,o,none⟩) zs
  by_cases hlt:k<nm
  ·obtain⟨wo,rfl⟩:∃wo:World,wo=wr:=⟨_,rfl⟩
   have hN:CallsIn FF 0 prog 58 #[.agg #[int i64 days,int i64 most,.slice gA ng gc,.slice mA nm mc,.slice cA nc cc],int i64 k] wo fun e w'=>e=.returned (.bool (decide ((m k).kind=0)))∧Below wo.heap.size wo w':=sI ⟨days,most,gA,ng,gc,g,mA,nm,mc,m,cA,nc,cc,c⟩ k wo ((((Hh.out.alloc (Nat.le_refl _) (.cells #[int i64 days,int i64 most,.slice gA ng gc,.slice mA nm mc,.slice cA nc cc] 74)).more (Nat.le_succ _)).below hR.out.2).more hsz) hlt
   have e4:=Dy ⟨days,most,gA,ng,gc,g,mA,nm,mc,m,cA,nc,cc,c⟩ k
   have hle:=uh ⟨days,most,gA,ng,gc,g,mA,nm,mc,m,cA,nc,cc,c⟩ k
   simp only at e4
   by_cases hz:(m k).kind=0
   ·rw[decide_eq_true hz] at hN
    rw[if_pos hz] at e4
    have E4:=hid e4
    clear e4
    gi_wp2_with (first
     | (gi_at_call 58;refine hN.mono ?_;rintro e w3 ⟨rfl,hb3⟩;have HB3:=hid hb3;have Ho:=hid (own_below hR.out.1 hb3);have hs3:=hb3.size;clear hb3)
     | (gi_at_builtin;refine aG rfl rfl rfl fun K5 ko=>?_;refine wp_append_lies _ _ _ _ rfl (w.heap.size+1) 3 i0 _ 1 8 underlying30 hi0.out hz0 hz1 hz2 rfl zo (.slice A n cp) (dS ⟨days,most,gA,ng,gc,g,mA,nm,mc,m,cA,nc,cc,c⟩ k).length _ rfl (bn Ho.out _) ⟨w3.heap.size,0,none⟩ 1 1 [_] rfl rfl (World.news_of_block (heap_alloc_new w3 _)) (by simp[Value.oneCell']) zo zU zo zm (w3.heap.size+1) zs ?_;intro rV qO w5 hown5 aZ ow qW;refine ko _ _ ?_;clear ko K5))
    go_roundw
    case rel=>exact⟨k+1,zo,by go_num,hid ⟨by rw[E4.out,List.length_append,List.map_append];exact hown5,((hR.out.2.trans (HB3.out.mono hsz)).alloc zo _).trans (below_grown aZ zm (fun g hg=>(dN Ho.out hg).1))⟩⟩
    case measure=>simp[intOf];omega
   ·rw[decide_eq_false hz] at hN
    rw[if_neg hz,List.append_nil] at e4
    gi_wp2_with (gi_at_call 58;refine hN.mono ?_;rintro e w3 ⟨rfl,hb3⟩)
    go_roundw
    case rel=>exact⟨k+1,zo,by go_num,hid ⟨by rw[e4];exact own_below hR.out.1 hb3,hR.out.2.trans (hb3.mono hsz)⟩⟩
    case measure=>simp[intOf];omega
  ·obtain rfl:k=nm:=zo
   gi_wp2
   go_ret
   exact⟨_,rfl,dV hR.out.1 (Nat.le_succ _),((Below.refl _ _).alloc (Nat.le_refl _) _).trans (hR.out.2.mono zs)⟩
theorem Ng(xs:Nat→Int)(A:Option Addr)(n p j:Nat)(w:World)(hI:Ints w w.heap.size A n xs)(hn:n≤maxLen)(hj:j<n)(hne:∀i,i<j→xs i≠xs j):CallsIn FF 0 prog 116 #[.slice A n p,int i64 (xs j)] w fun e w'=>e=.returned (int i64 j)∧Below w.heap.size w w':=by
 unfold maxLen at hn
 have HI:=hid hI
 have Hx:=hid hne
 clear hI hne
 obtain⟨x,hx⟩:∃x,x=xs j:=⟨_,rfl⟩
 have HX:=hid hx
 rw[← hx]
 clear hx
 gi_enter func116,ntmps116
 gi_wp2
 gi_loopw [8] (fun i wr=>∃k:Nat,k≤j∧i=int i64 k∧wr=w) (fun i _=>n - (intOf i).toNat)
 case atStart=>exact⟨0,Nat.zero_le _,rfl,rfl⟩
 case round=>
  obtain⟨k,hk,rfl,rfl⟩:=hrel
  have hlt:k<n:=zo
  obtain⟨ad,rfl,-⟩:=HI.out (show 0<n by omega)
  have ck:=Ints.at_ HI.out hlt
  by_cases he:k=j
  ·subst he
   have hq:(x == xs k)=true:=by rw[HX.out];simp
   gi_wp2
   all_goals first
    | (go_ret;exact⟨rfl,Below.refl _ _⟩)
    | (exfalso;have:=HX.out;omega)
  ·have hne:x≠xs k:=by rw[HX.out];exact fun e=>Hx.out k zo e.symm
   have hq:(x == xs k)=false:=by simpa using hne
   gi_wp2
   all_goals first
    | exact⟨⟨k+1,zo,by go_num,trivial⟩,by simp[intOf];omega⟩
    | (go_roundw
       case rel=>exact⟨k+1,zo,by go_num,trivial⟩
       case measure=>simp[intOf];omega)
    | (exfalso;omega)
structure Ht where
 f:Nat→Int
 m:Nat→Int
 lies:Nat
def Ht.cells(h:Ht):Array Value:=#[int i64 (h.f 0),int i64 (h.f 1),int i64 (h.f 2),int i64 (h.m 0),int i64 (h.m 1),int i64 (h.m 2),int i64 (h.m 3),int i64 (h.m 4),int i64 (h.m 5),int i64 h.lies]
def Ht.val(h:Ht):Value:=.agg h.cells
def Ht.FE(h:Ht)(k:Nat):Bool:=decide (h.lies / 2 ^ k % 2=1)
def Ht.real(h:Ht)(k:Nat):Int:=if h.FE k then 0 else h.m k
def wI:Array Value:=#[.string {data:=#[99,97,109,101] },.func (.func 130) #[] #[],.string {data:=#[115,111,108,100] },.func (.func 131) #[] #[],.string {data:=#[108,111,115,116] },.func (.func 131) #[] #[],.string {data:=#[103,105,118,101,110] },.func (.func 131) #[] #[],.string {data:=#[98,97,99,107] },.func (.func 130) #[] #[]]
end
section
open Go.RowKit Go.Sort
theorem RB{kd:Int}(h:0≤kd∧kd≤4):∃ (x:ByteArray) (f:Nat),((f=130∧(kd=0∨kd=4))∨(f=131∧¬ (kd=0∨kd=4)))∧∀w:World,(Instr.index 150 (.agg wI) (int i64 kd)).run prog w=.ok (.agg #[.string x,.func (.func f) #[] #[]]) w∧(Instr.field 149 (.agg #[.string x,.func (.func f) #[] #[]]) 1).run prog w=.ok (.func (.func f) #[] #[]) w:=by
 rcases(show kd=0∨kd=1∨kd=2∨kd=3∨kd=4 by omega) with rfl|rfl|rfl|rfl|rfl
 ·exact⟨{data:=#[99,97,109,101] },_,.inl ⟨rfl,zD⟩,fun _=>⟨zk,zk⟩⟩
 ·exact⟨{data:=#[115,111,108,100] },_,.inr ⟨rfl,zD⟩,fun _=>⟨zk,zk⟩⟩
 ·exact⟨{data:=#[108,111,115,116] },_,.inr ⟨rfl,zD⟩,fun _=>⟨zk,zk⟩⟩
 ·exact⟨{data:=#[103,105,118,101,110] },_,.inr ⟨rfl,zD⟩,fun _=>⟨zk,zk⟩⟩
 ·exact⟨{data:=#[98,97,99,107] },_,.inl ⟨rfl,zD⟩,fun _=>⟨zk,zk⟩⟩
def lH(s:Nat→Int):Value:=.agg #[int i64 (s 0),int i64 (s 1),int i64 (s 2)]
def Yj(b:Bk)(h:Ht)(k:Nat):Int:=if (b.m k).kind=0∨(b.m k).kind=4 then h.real k else - h.real k
def Ai(b:Bk)(s:Nat→Int)(h:Ht)(k:Nat)(g:Nat):Int:=if (b.m k).good=(g:Int) then s g+Yj b h k else s g
end
end Go.Proofs.YthaelabgfnnebaaGreat
namespace Go.Proofs.YthaelabgfnnebaaGreat.W
open Go.RowKit
theorem nV(h:Ht)(k:Nat)(w:World)(hl:h.lies<64)(hk:k<6):CallsIn SF 0 prog 61 #[h.val,int i64 k] w fun e w'=>e=.returned (.bool (h.FE k))∧Below w.heap.size w w':=by
 obtain⟨f,m,lies⟩:=h
 simp only at hl
 simp only[Ht.val,Ht.cells,Ht.FE]
 have e1:(lies:Int) / 2 ^ k=((lies / 2 ^ k:Nat):Int):=by push_cast;rfl
 have hle:lies / 2 ^ k≤lies:=Nat.div_le_self _ _
 have c2:bits BinOp.and IntKind.i64 ((lies:Int) / 2 ^ k) 1=((lies / 2 ^ k % 2:Nat):Int):=by rw[e1];exact and_one _ zo
 have c3:(bits BinOp.and IntKind.i64 ((lies:Int) / 2 ^ k) 1 == 1)=decide (lies / 2 ^ k % 2=1):=by
  rw[c2]
  by_cases h:lies / 2 ^ k % 2=1
  ·rw[h];rfl
  ·rw[decide_eq_false h];exact beq_eq_false_iff_ne.2 (fun e=>h (by exact_mod_cast e))
 clear c2 e1 hle
 have em:min k 64=k:=Nat.min_eq_left zo
 have C3:=hid c3
 clear c3
 gi_enter func61,ntmps61
 gi_wp2
 all_goals (go_ret;refine⟨?_,bw⟩;first|exact congrArg Ending.returned (congrArg Value.bool C3.out)|(rw[← C3.out,← em];simp)|trace_state)
theorem nD(h:Ht)(k:Nat)(w:World)(hl:h.lies<64)(hk:k<6):CallsIn SF 0 prog 57 #[h.val,int i64 k] w fun e w'=>e=.returned (int i64 (h.real k))∧Below w.heap.size w w':=by
 obtain⟨f,m,lies⟩:=h
 have hF:∀w,CallsIn SF 0 prog 61 #[.agg #[int i64 (f 0),int i64 (f 1),int i64 (f 2),int i64 (m 0),int i64 (m 1),int i64 (m 2),int i64 (m 3),int i64 (m 4),int i64 (m 5),int i64 lies],int i64 k] w fun e w'=>e=.returned (.bool ((⟨f,m,lies⟩:Ht).FE k))∧Below w.heap.size w w':=fun w=>nV ⟨f,m,lies⟩ k w hl hk
 simp only[Ht.val,Ht.cells,Ht.real]
 obtain⟨bb,hb⟩:∃bb,bb=(⟨f,m,lies⟩:Ht).FE k:=⟨_,rfl⟩
 rw[← hb] at hF⊢
 clear hb
 cases bb
 all_goals
  rcases(show k=0∨k=1∨k=2∨k=3∨k=4∨k=5 by omega) with rfl|rfl|rfl|rfl|rfl|rfl
 all_goals
  gi_enter func57,ntmps57
  gi_wp2_with (gi_at_call 61;refine(hF _).mono ?_;rintro e w2 ⟨rfl,hb2⟩;obtain⟨hc2,hf2⟩:=fq hb2;have hs2:w.heap.size<w2.heap.size:=by have:=hb2.size;simp at this;omega)
  go_ret
  exact⟨rfl,(bw:Below w.heap.size w _).trans (hb2.mono zs)⟩
end Go.Proofs.YthaelabgfnnebaaGreat.W
namespace Go.Proofs.YthaelabgfnnebaaGreat
open Go.RowKit
theorem nV(h:Ht)(k:Nat)(w:World)(hl:h.lies<64)(hk:k<6):CallsIn FF 0 prog 61 #[h.val,int i64 k] w fun e w'=>e=.returned (.bool (h.FE k))∧Below w.heap.size w w':=
 CallsIn.wider (W.nV h k w hl hk)
theorem nD(h:Ht)(k:Nat)(w:World)(hl:h.lies<64)(hk:k<6):CallsIn FF 0 prog 57 #[h.val,int i64 k] w fun e w'=>e=.returned (int i64 (h.real k))∧Below w.heap.size w w':=
 CallsIn.wider (W.nD h k w hl hk)
end Go.Proofs.YthaelabgfnnebaaGreat
namespace Go.Proofs.YthaelabgfnnebaaGreat.W
section
open Go.RowKit
theorem VF(w:World):CallsIn SF 0 prog 106 #[] w fun e w'=>e=.returned (.agg wI)∧Below w.heap.size w w':=by
 gi_enter func106,ntmps106
 gi_wp2
 refine bodyPost_ret (v:=.agg wI) (by simp[results,results106,go_sem,wI]) rfl ⟨rfl,?_⟩
 exact(Below.refl _ _).alloc (Nat.le_refl _) _
end
end Go.Proofs.YthaelabgfnnebaaGreat.W
