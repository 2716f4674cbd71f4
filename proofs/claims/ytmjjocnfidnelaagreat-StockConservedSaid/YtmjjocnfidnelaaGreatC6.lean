/- P9 P10 P11 P12 P13 P18 WP12 WP13 WP18 P19 -/
import Derived.Test.YtmjjocnfidnelaaGreatC5
set_option maxRecDepth 100000
set_option maxHeartbeats 16000000
set_option linter.unusedVariables false
set_option linter.unusedSectionVars false
open Go.IntKind(i64)
open Go.Lib(hid)
open Go.Proofs.Tryz
open Go.Value(int)
namespace Go.Proofs.YtmjjocnfidnelaaGreat
section
open Go.RowKit
def Bk.et(b:Bk)(A:Option Addr)(n p:Nat):Value:=.agg (b.cells ++ #[.slice A n p])
def Rv(b:Bk)(w:World)(e:Ending)(w':World):Prop:=∃A p,e=.returned (.tuple #[b.et A (bP b (2 ^ b.nm)).length p,int i64 0])∧
 w'.ownsRow w.heap.size 3 1 (.slice A (bP b (2 ^ b.nm)).length p) (bP b (2 ^ b.nm)).length ((bP b (2 ^ b.nm)).map (int i64))∧Below w.heap.size w w'
theorem eG{w:World}{base b:Nat}{e:TypeId}{v:Value}{size n:Nat}{l:List Value}(h:w.ownsRow base e size v n l)(hb:b≤base):w.ownsRow b e size v n l:=
 ⟨h.1,h.2.imp id fun⟨g,cap,cur,h1,h2,h3⟩=>⟨g,cap,cur,h1,Nat.le_trans hb h2,h3⟩⟩
theorem Ud(b:Bk)(w:World)(h:b.At w w.heap.size)(ok:b.Ok)(hcap:b.ng≤b.gc):CallsIn FF 0 prog 36 #[b.val] w (fun e w'=>∃A p,e=.returned (.tuple #[b.et A (bP b (2 ^ b.nm)).length p,int i64 0])∧w'.ownsRow w.heap.size 3 1 (.slice A (bP b (2 ^ b.nm)).length p) (bP b (2 ^ b.nm)).length ((bP b (2 ^ b.nm)).map (int i64))∧Below w.heap.size w w'∧jH w' (.slice A (bP b (2 ^ b.nm)).length p)):=by
 obtain⟨days,most,gA,ng,gc,g,mA,nm,mc,m,cA,nc,cc,c⟩:=b
 have hC:∀w,(⟨days,most,gA,ng,gc,g,mA,nm,mc,m,cA,nc,cc,c⟩:Bk).At w w.heap.size→CallsIn FF 0 prog 69 #[.agg #[int i64 days,int i64 most,.slice gA ng gc,.slice mA nm mc,.slice cA nc cc]] w fun e w'=>e=.returned (int i64 0)∧Below w.heap.size w w':=fun w h=>WJ ⟨days,most,gA,ng,gc,g,mA,nm,mc,m,cA,nc,cc,c⟩ w h ok hcap
 have hL:∀w,(⟨days,most,gA,ng,gc,g,mA,nm,mc,m,cA,nc,cc,c⟩:Bk).At w w.heap.size→CallsIn FF 0 prog 70 #[.agg #[int i64 days,int i64 most,.slice gA ng gc,.slice mA nm mc,.slice cA nc cc]] w fun e w'=>∃v,e=.returned v∧w'.ownsRow w.heap.size 3 1 v (bP ⟨days,most,gA,ng,gc,g,mA,nm,mc,m,cA,nc,cc,c⟩ (2 ^ nm)).length ((bP ⟨days,most,gA,ng,gc,g,mA,nm,mc,m,cA,nc,cc,c⟩ (2 ^ nm)).map (int i64))∧Below w.heap.size w w'∧jH w' v:=fun w h=>NC ⟨days,most,gA,ng,gc,g,mA,nm,mc,m,cA,nc,cc,c⟩ w h ok.moves.1
 simp only[Bk.val,Bk.et,Bk.cells]
 have Hh:=hid h
 clear h ok hcap
 gi_enter func36,ntmps36
 gi_wp2_with (gi_at_call 69;refine(hC _ (Hh.out.below (bw) |>.more zm)).mono ?_;rintro e w2 ⟨rfl,hb2⟩;obtain⟨hc2,hf2⟩:=fJ hb2;have hs2:w.heap.size+1<w2.heap.size:=by have:=hb2.size;simp at this;omega)
 have hW2:Below w.heap.size w w2:=(bw:Below w.heap.size w _).trans (hb2.mono zm)
 have hZ:Whole ((w.alloc (.cells #[int i64 days,int i64 most,.slice gA ng gc,.slice mA nm mc,.slice cA nc cc] 26)).alloc (.cells #[int i64 0,int i64 0,.slice none 0 0,.slice none 0 0,.slice none 0 0,.slice none 0 0] 73)) (w.heap.size+1) 73 #[int i64 0,int i64 0,.slice none 0 0,.slice none 0 0,.slice none 0 0,.slice none 0 0]:=by
  have e:=Whole.new (w.alloc (.cells #[int i64 days,int i64 most,.slice gA ng gc,.slice mA nm mc,.slice cA nc cc] 26)) 73 #[int i64 0,int i64 0,.slice none 0 0,.slice none 0 0,.slice none 0 0,.slice none 0 0]
  rwa[show(w.alloc (.cells #[int i64 days,int i64 most,.slice gA ng gc,.slice mA nm mc,.slice cA nc cc] 26)).heap.size=w.heap.size+1 by simp] at e
 have hZ2:Hid (Whole w2 (w.heap.size+1) 73 #[int i64 0,int i64 0,.slice none 0 0,.slice none 0 0,.slice none 0 0,.slice none 0 0]):=hid (hZ.below hb2 zs)
 clear hZ
 gi_region_with (gi_at_call 70;refine(hL _ (Hh.out.below (bw) |>.more zm)).mono ?_;rintro e w3 ⟨v,rfl,hown,hb3,Ks⟩;obtain⟨A3,c3,rfl⟩:=dD hown;have ho3:=eG (b:=w2.heap.size) hown zs;clear hown;obtain⟨hc3,hf3⟩:=fJ hb3;have hs3:w2.heap.size<w3.heap.size:=(by have:=hb3.size;simp at this;omega);have hw3:Below w2.heap.size w2 w3:=(bw:Below w2.heap.size w2 _).trans (hb3.mono zs);have hZ3:=(hZ2.out.below hw3 zo).cell;have hT3:=(hZ2.out.below hw3 zo).thaw)
 all_goals
  gi_wp2
  have hF:=((((((hZ2.out.below hw3 zo).set 0 (int i64 days)).set 1 (int i64 most)).set 2 (.slice gA ng gc)).set 3 (.slice mA nm mc)).set 4 (.slice cA nc cc)).set 5 (.slice A3 (bP ⟨days,most,gA,ng,gc,g,mA,nm,mc,m,cA,nc,cc,c⟩ (2 ^ nm)).length c3)
  have q0:=hF.cell 0
  have q1:=hF.cell 1
  have q2:=hF.cell 2
  have q3:=hF.cell 3
  have q4:=hF.cell 4
  have q5:=hF.cell 5
  clear hZ3 hT3 hc3 hf3
  refine bodyPost_ret (v:=.tuple #[.agg #[int i64 days,int i64 most,.slice gA ng gc,.slice mA nm mc,.slice cA nc cc,.slice A3 (bP ⟨days,most,gA,ng,gc,g,mA,nm,mc,m,cA,nc,cc,c⟩ (2 ^ nm)).length c3],int i64 0]) (by simp[results,results36,go_sem,q0,q1,q2,q3,q4,q5]) rfl ⟨A3,c3,rfl,?_,?_,?_⟩
  ·refine eG (base:=w2.heap.size) ?_ zo
   refine eB ?_ hs2 _
   refine eB ?_ hs2 _
   refine eB ?_ hs2 _
   refine eB ?_ hs2 _
   refine eB ?_ hs2 _
   refine eB ?_ hs2 _
   exact ho3
  ·have bE:Below w.heap.size w w3:=hW2.trans (hw3.mono zo)
   refine Below.setCell ?_ (Nat.le_succ _) _
   refine Below.setCell ?_ (Nat.le_succ _) _
   refine Below.setCell ?_ (Nat.le_succ _) _
   refine Below.setCell ?_ (Nat.le_succ _) _
   refine Below.setCell ?_ (Nat.le_succ _) _
   refine Below.setCell ?_ (Nat.le_succ _) _
   exact bE
  ·have hne:∀q,(Value.slice A3 (bP ⟨days,most,gA,ng,gc,g,mA,nm,mc,m,cA,nc,cc,c⟩ (2 ^ nm)).length c3).ownBlock=some q→q≠w.heap.size+1:=fun q hq=>by have:=(bG ho3 hq).1;omega
   exact(((((Ks.other hne _).other hne _).other hne _).other hne _).other hne _).other hne _
theorem Ue(b:Bk)(w:World)(h:b.At w w.heap.size)(ok:b.Ok)(hcap:b.ng≤b.gc):CallsIn FF 0 prog 36 #[b.val] w (Rv b w):=
 (Ud b w h ok hcap).mono fun _ _ ⟨A,p,he,ho,hb,_⟩=>⟨A,p,he,ho,hb⟩
theorem JI(xs:Nat→Int)(A:Option Addr)(n p:Nat)(top:Int)(w:World)(hI:Ints w w.heap.size A n xs)(hn:n≤maxLen)(hx:∀i,i<n→0≤xs i∧xs i≤top):CallsIn FF 0 prog 58 #[.slice A n p,int i64 n,int i64 top] w fun e w'=>e=.returned (int i64 0)∧Below w.heap.size w w':=by
 unfold maxLen at hn
 have HI:=hid hI
 have Hx:=hid hx
 clear hI hx
 gi_enter func58,ntmps58
 gi_wp2
 gi_loopw [15] (fun i wr=>∃k:Nat,k≤n∧i=int i64 k∧wr=w) (fun i _=>n - (intOf i).toNat)
 case atStart=>exact⟨0,Nat.zero_le _,rfl,rfl⟩
 case round=>
  obtain⟨k,hk,rfl,rfl⟩:=hrel
  by_cases hlt:k<n
  ·obtain⟨ad,rfl,-⟩:=HI.out (show 0<n by omega)
   have ck:=Ints.at_ HI.out hlt
   have ik:=hid (bK.2 (Hx.out k hlt))
   gi_wp2_with (gi_at_call 56;refine(dw _ _ _ _).mono ?_;rintro e w' ⟨he,rfl⟩;rw[ik.out] at he;subst he)
   go_roundw
   case rel=>exact⟨k+1,zo,by go_num,trivial⟩
   case measure=>simp[intOf];omega
  ·gi_wp2
   go_ret
   exact⟨rfl,Below.refl _ _⟩
theorem Uo(xs:Nat→Int)(A:Option Addr)(n p M:Nat)(w:World)(hI:Ints w w.heap.size A n xs)(hn:n≤maxLen)(hM:M≤maxLen)(hx:∀i,i<n→0≤xs i∧xs i≤(M:Int) - 1)(hup:∀i,i+1<n→xs i<xs (i+1)):CallsIn FF 0 prog 95 #[.slice A n p,int i64 M] w fun e w'=>e=.returned (int i64 0)∧Below w.heap.size w w':=by
 unfold maxLen at hn hM
 have HI:=hid hI
 have Hx:=hid hx
 have Hu:=hid hup
 clear hI hx hup
 have eM:IntKind.i64.wrap ((M:Int) - 1)=(M:Int) - 1:=IntWalk.i64_in _ zo
 gi_enter func95,ntmps95
 gi_wp2
 gi_loopw [9] (fun i wr=>∃k:Nat,k≤n∧i=int i64 k∧wr=w) (fun i _=>n - (intOf i).toNat)
 case atStart=>exact⟨0,Nat.zero_le _,rfl,rfl⟩
 case round=>
  obtain⟨k,hk,rfl,rfl⟩:=hrel
  by_cases hlt:k<n
  ·obtain⟨ad,rfl,-⟩:=HI.out (show 0<n by omega)
   have ck:=Ints.at_ HI.out hlt
   have ik:=hid (bK.2 (Hx.out k hlt))
   by_cases hk0:0<k
   ·have hd:decide (0<(k:Int))=true:=zm
    have cj:=Ints.at_ HI.out (show k - 1<n by omega)
    have hu:=Hu.out (k - 1) zo
    rw[show k - 1+1=k by omega] at hu
    have hd2:decide (xs k≤xs (k - 1))=false:=decide_eq_false zo
    have e2:0≤(k:Int) - 1:=zo
    have e2':1≤(k:Int):=zo
    have e4:(k:Int) - 1<n:=zo
    have e3:((k:Int) - 1).toNat=k - 1:=zo
    have e1:IntKind.i64.wrap ((k:Int) - 1)=(k:Int) - 1:=IntWalk.i64_in _ zo
    gi_wp2_with (gi_at_call 56;refine(dw _ _ _ _).mono ?_;rintro e w' ⟨he,rfl⟩;rw[ik.out] at he;subst he)
    all_goals first
     | exact⟨⟨k+1,zo,by go_num,trivial⟩,by simp[intOf];omega⟩
     | (go_roundw
        case rel=>exact⟨k+1,zo,by go_num,trivial⟩
        case measure=>simp[intOf];omega)
   ·have hd:decide (0<(k:Int))=false:=zm
    gi_wp2_with (first|(exact absurd ‹some undef=some (Value.bool _)› (by simp[undef]))|(gi_at_call 56;refine(dw _ _ _ _).mono ?_;rintro e w' ⟨he,rfl⟩;rw[ik.out] at he;subst he))
    all_goals first
     | exact⟨⟨k+1,zo,by go_num,trivial⟩,by simp[intOf];omega⟩
     | (go_roundw
        case rel=>exact⟨k+1,zo,by go_num,trivial⟩
        case measure=>simp[intOf];omega)
  ·gi_wp2
   go_ret
   exact⟨rfl,Below.refl _ _⟩
def eu(b:Bk)(k:Nat):List Int:=((List.range k).filter fun i=>decide ((b.m i).kind=0)).map fun(n:Nat)=>(n:Int)
theorem Ev(b:Bk)(k:Nat):eu b (k+1)=eu b k ++ if (b.m k).kind=0 then[(k:Int)] else[]:=by
 unfold eu
 rw[List.range_succ,List.filter_append,List.map_append]
 by_cases h:(b.m k).kind=0 <;> simp[h]
theorem vg(b:Bk)(k:Nat):(eu b k).length≤k:=by
 unfold eu
 rw[List.length_map]
 exact Nat.le_trans (List.length_filter_le _ _) zs
theorem XQ(b:Bk)(w:World)(h:b.At w w.heap.size)(hm:b.nm≤6):CallsIn FF 0 prog 89 #[b.val] w fun e w'=>∃v,e=.returned v∧w'.ownsRow w.heap.size 3 1 v (eu b b.nm).length ((eu b b.nm).map (int i64))∧Below w.heap.size w w':=by
 obtain⟨days,most,gA,ng,gc,g,mA,nm,mc,m,cA,nc,cc,c⟩:=b
 simp only[Bk.val,Bk.cells]
 simp only at hm
 have Hh:=hid h
 clear h
 obtain⟨i0,hi,hz0,hz1,hz2⟩:=info_parts info3
 have hi0:=hid hi
 clear hi
 gi_enter func89,ntmps89
 gi_wp2
 gi_loopw [3,9] (fun l i wr=>∃k:Nat,k≤nm∧i=int i64 k∧Hid (wr.ownsRow (w.heap.size+1) 3 1 l (eu ⟨days,most,gA,ng,gc,g,mA,nm,mc,m,cA,nc,cc,c⟩ k).length ((eu ⟨days,most,gA,ng,gc,g,mA,nm,mc,m,cA,nc,cc,c⟩ k).map (int i64))∧Below (w.heap.size+1) (w.alloc (.cells #[int i64 days,int i64 most,.slice gA ng gc,.slice mA nm mc,.slice cA nc cc] 71)) wr)) (fun _ i _=>nm - (intOf i).toNat)
 case atStart=>exact⟨0,Nat.zero_le _,rfl,hid ⟨ji _ (w.heap.size+1) 3,Below.refl _ _⟩⟩
 case round=>
  obtain⟨k,hk,rfl,hR⟩:=hrel
  obtain⟨A,n,cp,rfl⟩:=fO hR.out.1
  have hsz:w.heap.size+1≤wr.heap.size:=by have:=hR.out.2.size;simpa using this
  have Xo:w.heap.size<wr.heap.size:=hsz
  have hbx:∀o,wr.cell? ⟨w.heap.size,o,none⟩=(w.alloc (.cells #[int i64 days,int i64 most,.slice gA ng gc,.slice mA nm mc,.slice cA nc cc] 71)).cell? ⟨w.heap.size,o,none⟩:=fun o=>hR.out.2.cell (p:=⟨w.heap.size,o,none⟩) zs
  by_cases hlt:k<nm
  ·obtain⟨wo,rfl⟩:∃wo:World,wo=wr:=⟨_,rfl⟩
   have hN:CallsIn FF 0 prog 46 #[.agg #[int i64 days,int i64 most,.slice gA ng gc,.slice mA nm mc,.slice cA nc cc],int i64 k] wo fun e w'=>e=.returned (.bool (decide ((m k).kind=0)))∧Below wo.heap.size wo w':=tX ⟨days,most,gA,ng,gc,g,mA,nm,mc,m,cA,nc,cc,c⟩ k wo ((((Hh.out.alloc (Nat.le_refl _) (.cells #[int i64 days,int i64 most,.slice gA ng gc,.slice mA nm mc,.slice cA nc cc] 71)).more (Nat.le_succ _)).below hR.out.2).more hsz) hlt
   have e4:=Ev ⟨days,most,gA,ng,gc,g,mA,nm,mc,m,cA,nc,cc,c⟩ k
   have hle:=vg ⟨days,most,gA,ng,gc,g,mA,nm,mc,m,cA,nc,cc,c⟩ k
   simp only at e4
   by_cases hz:(m k).kind=0
   ·rw[decide_eq_true hz] at hN
    rw[if_pos hz] at e4
    have E4:=hid e4
    clear e4
    gi_wp2_with (first
     | (gi_at_call 46;refine hN.mono ?_;rintro e w3 ⟨rfl,hb3⟩;have HB3:=hid hb3;have Ho:=hid (own_below hR.out.1 hb3);have hs3:=hb3.size;clear hb3)
     | (gi_at_builtin;refine aF rfl rfl rfl fun K5 jK=>?_;refine wp_append_lies _ _ _ _ rfl (w.heap.size+1) 3 i0 _ 1 8 underlying30 hi0.out hz0 hz1 hz2 rfl zo (.slice A n cp) (eu ⟨days,most,gA,ng,gc,g,mA,nm,mc,m,cA,nc,cc,c⟩ k).length _ rfl (aL Ho.out _) ⟨w3.heap.size,0,none⟩ 1 1 [_] rfl rfl (World.news_of_block (heap_alloc_new w3 _)) (by simp[Value.oneCell']) zo zu zo zm (w3.heap.size+1) zs ?_;intro rV qJ w5 hown5 aU nI qO;refine jK _ _ ?_;clear jK K5))
    go_roundw
    case rel=>exact⟨k+1,zo,by go_num,hid ⟨by rw[E4.out,List.length_append,List.map_append];exact hown5,((hR.out.2.trans (HB3.out.mono hsz)).alloc zo _).trans (below_grown aU zm (fun g hg=>(bG Ho.out hg).1))⟩⟩
    case measure=>simp[intOf];omega
   ·rw[decide_eq_false hz] at hN
    rw[if_neg hz,List.append_nil] at e4
    gi_wp2_with (gi_at_call 46;refine hN.mono ?_;rintro e w3 ⟨rfl,hb3⟩)
    go_roundw
    case rel=>exact⟨k+1,zo,by go_num,hid ⟨by rw[e4];exact own_below hR.out.1 hb3,hR.out.2.trans (hb3.mono hsz)⟩⟩
    case measure=>simp[intOf];omega
  ·obtain rfl:k=nm:=zo
   gi_wp2
   go_ret
   exact⟨_,rfl,eG hR.out.1 (Nat.le_succ _),((Below.refl _ _).alloc (Nat.le_refl _) _).trans (hR.out.2.mono zs)⟩
theorem OG(xs:Nat→Int)(A:Option Addr)(n p j:Nat)(w:World)(hI:Ints w w.heap.size A n xs)(hn:n≤maxLen)(hj:j<n)(hne:∀i,i<j→xs i≠xs j):CallsIn FF 0 prog 90 #[.slice A n p,int i64 (xs j)] w fun e w'=>e=.returned (int i64 j)∧Below w.heap.size w w':=by
 unfold maxLen at hn
 have HI:=hid hI
 have Hx:=hid hne
 clear hI hne
 obtain⟨x,hx⟩:∃x,x=xs j:=⟨_,rfl⟩
 have HX:=hid hx
 rw[← hx]
 clear hx
 gi_enter func90,ntmps90
 gi_wp2
 gi_loopw [8] (fun i wr=>∃k:Nat,k≤j∧i=int i64 k∧wr=w) (fun i _=>n - (intOf i).toNat)
 case atStart=>exact⟨0,Nat.zero_le _,rfl,rfl⟩
 case round=>
  obtain⟨k,hk,rfl,rfl⟩:=hrel
  have hlt:k<n:=zo
  obtain⟨ad,rfl,-⟩:=HI.out (show 0<n by omega)
  have ck:=Ints.at_ HI.out hlt
  by_cases he:k=j
  ·subst he
   have hq:(x == xs k)=true:=by rw[HX.out];simp
   gi_wp2
   all_goals first
    | (go_ret;exact⟨rfl,Below.refl _ _⟩)
    | (exfalso;have:=HX.out;omega)
  ·have hne:x≠xs k:=by rw[HX.out];exact fun e=>Hx.out k zo e.symm
   have hq:(x == xs k)=false:=by simpa using hne
   gi_wp2
   all_goals first
    | exact⟨⟨k+1,zo,by go_num,trivial⟩,by simp[intOf];omega⟩
    | (go_roundw
       case rel=>exact⟨k+1,zo,by go_num,trivial⟩
       case measure=>simp[intOf];omega)
    | (exfalso;omega)
structure Ht where
 f:Nat→Int
 m:Nat→Int
 lies:Nat
def Ht.cells(h:Ht):Array Value:=#[int i64 (h.f 0),int i64 (h.f 1),int i64 (h.f 2),int i64 (h.m 0),int i64 (h.m 1),int i64 (h.m 2),int i64 (h.m 3),int i64 (h.m 4),int i64 (h.m 5),int i64 h.lies]
def Ht.val(h:Ht):Value:=.agg h.cells
def Ht.IY(h:Ht)(k:Nat):Bool:=decide (h.lies / 2 ^ k % 2=1)
def Ht.real(h:Ht)(k:Nat):Int:=if h.IY k then 0 else h.m k
def xV:Array Value:=#[.string {data:=#[99,97,109,101] },.func (.func 116) #[] #[],.string {data:=#[115,111,108,100] },.func (.func 117) #[] #[],.string {data:=#[108,111,115,116] },.func (.func 117) #[] #[],.string {data:=#[103,105,118,101,110] },.func (.func 117) #[] #[],.string {data:=#[98,97,99,107] },.func (.func 116) #[] #[]]
end
section
open Go.RowKit Go.Sort
theorem TB{kd:Int}(h:0≤kd∧kd≤4):∃ (x:ByteArray) (f:Nat),((f=116∧(kd=0∨kd=4))∨(f=117∧¬ (kd=0∨kd=4)))∧∀w:World,(Instr.index 144 (.agg xV) (int i64 kd)).run prog w=.ok (.agg #[.string x,.func (.func f) #[] #[]]) w∧(Instr.field 143 (.agg #[.string x,.func (.func f) #[] #[]]) 1).run prog w=.ok (.func (.func f) #[] #[]) w:=by
 rcases(show kd=0∨kd=1∨kd=2∨kd=3∨kd=4 by omega) with rfl|rfl|rfl|rfl|rfl
 ·exact⟨{data:=#[99,97,109,101] },_,.inl ⟨rfl,zD⟩,fun _=>⟨zk,zk⟩⟩
 ·exact⟨{data:=#[115,111,108,100] },_,.inr ⟨rfl,zD⟩,fun _=>⟨zk,zk⟩⟩
 ·exact⟨{data:=#[108,111,115,116] },_,.inr ⟨rfl,zD⟩,fun _=>⟨zk,zk⟩⟩
 ·exact⟨{data:=#[103,105,118,101,110] },_,.inr ⟨rfl,zD⟩,fun _=>⟨zk,zk⟩⟩
 ·exact⟨{data:=#[98,97,99,107] },_,.inl ⟨rfl,zD⟩,fun _=>⟨zk,zk⟩⟩
def mE(s:Nat→Int):Value:=.agg #[int i64 (s 0),int i64 (s 1),int i64 (s 2)]
def pT(b:Bk)(h:Ht)(k:Nat):Int:=if (b.m k).kind=0∨(b.m k).kind=4 then h.real k else - h.real k
def Fy(b:Bk)(s:Nat→Int)(h:Ht)(k:Nat)(g:Nat):Int:=if (b.m k).good=(g:Int) then s g+pT b h k else s g
end
end Go.Proofs.YtmjjocnfidnelaaGreat
namespace Go.Proofs.YtmjjocnfidnelaaGreat.W
open Go.RowKit
theorem oJ(h:Ht)(k:Nat)(w:World)(hl:h.lies<64)(hk:k<6):CallsIn SF 0 prog 49 #[h.val,int i64 k] w fun e w'=>e=.returned (.bool (h.IY k))∧Below w.heap.size w w':=by
 obtain⟨f,m,lies⟩:=h
 simp only at hl
 simp only[Ht.val,Ht.cells,Ht.IY]
 have e1:(lies:Int) / 2 ^ k=((lies / 2 ^ k:Nat):Int):=by push_cast;rfl
 have hle:lies / 2 ^ k≤lies:=Nat.div_le_self _ _
 have c2:bits BinOp.and IntKind.i64 ((lies:Int) / 2 ^ k) 1=((lies / 2 ^ k % 2:Nat):Int):=by rw[e1];exact and_one _ zo
 have c3:(bits BinOp.and IntKind.i64 ((lies:Int) / 2 ^ k) 1 == 1)=decide (lies / 2 ^ k % 2=1):=by
  rw[c2]
  by_cases h:lies / 2 ^ k % 2=1
  ·rw[h];rfl
  ·rw[decide_eq_false h];exact beq_eq_false_iff_ne.2 (fun e=>h (by exact_mod_cast e))
 clear c2 e1 hle
 have em:min k 64=k:=Nat.min_eq_left zo
 have C3:=hid c3
 clear c3
 gi_enter func49,ntmps49
 gi_wp2
 all_goals (go_ret;refine⟨?_,bw⟩;first|exact congrArg Ending.returned (congrArg Value.bool C3.out)|(rw[← C3.out,← em];simp)|trace_state)
theorem nX(h:Ht)(k:Nat)(w:World)(hl:h.lies<64)(hk:k<6):CallsIn SF 0 prog 45 #[h.val,int i64 k] w fun e w'=>e=.returned (int i64 (h.real k))∧Below w.heap.size w w':=by
 obtain⟨f,m,lies⟩:=h
 have hF:∀w,CallsIn SF 0 prog 49 #[.agg #[int i64 (f 0),int i64 (f 1),int i64 (f 2),int i64 (m 0),int i64 (m 1),int i64 (m 2),int i64 (m 3),int i64 (m 4),int i64 (m 5),int i64 lies],int i64 k] w fun e w'=>e=.returned (.bool ((⟨f,m,lies⟩:Ht).IY k))∧Below w.heap.size w w':=fun w=>oJ ⟨f,m,lies⟩ k w hl hk
 simp only[Ht.val,Ht.cells,Ht.real]
 obtain⟨bb,hb⟩:∃bb,bb=(⟨f,m,lies⟩:Ht).IY k:=⟨_,rfl⟩
 rw[← hb] at hF⊢
 clear hb
 cases bb
 all_goals
  rcases(show k=0∨k=1∨k=2∨k=3∨k=4∨k=5 by omega) with rfl|rfl|rfl|rfl|rfl|rfl
 all_goals
  gi_enter func45,ntmps45
  gi_wp2_with (gi_at_call 49;refine(hF _).mono ?_;rintro e w2 ⟨rfl,hb2⟩;obtain⟨hc2,hf2⟩:=fJ hb2;have hs2:w.heap.size<w2.heap.size:=by have:=hb2.size;simp at this;omega)
  go_ret
  exact⟨rfl,(bw:Below w.heap.size w _).trans (hb2.mono zs)⟩
end Go.Proofs.YtmjjocnfidnelaaGreat.W
namespace Go.Proofs.YtmjjocnfidnelaaGreat
open Go.RowKit
theorem oJ(h:Ht)(k:Nat)(w:World)(hl:h.lies<64)(hk:k<6):CallsIn FF 0 prog 49 #[h.val,int i64 k] w fun e w'=>e=.returned (.bool (h.IY k))∧Below w.heap.size w w':=
 CallsIn.wider (W.oJ h k w hl hk)
theorem nX(h:Ht)(k:Nat)(w:World)(hl:h.lies<64)(hk:k<6):CallsIn FF 0 prog 45 #[h.val,int i64 k] w fun e w'=>e=.returned (int i64 (h.real k))∧Below w.heap.size w w':=
 CallsIn.wider (W.nX h k w hl hk)
end Go.Proofs.YtmjjocnfidnelaaGreat
namespace Go.Proofs.YtmjjocnfidnelaaGreat.W
section
open Go.RowKit
theorem XA(w:World):CallsIn SF 0 prog 96 #[] w fun e w'=>e=.returned (.agg xV)∧Below w.heap.size w w':=by
 gi_enter func96,ntmps96
 gi_wp2
 refine bodyPost_ret (v:=.agg xV) (by simp[results,results96,go_sem,xV]) rfl ⟨rfl,?_⟩
 exact(Below.refl _ _).alloc (Nat.le_refl _) _
end
end Go.Proofs.YtmjjocnfidnelaaGreat.W
namespace Go.Proofs.YtmjjocnfidnelaaGreat.W
open Go.RowKit Go.Sort
theorem vZ(b:Bk)(s:Nat→Int)(h:Ht)(k:Nat)(w:World)(hA:b.At w w.heap.size)(hk:k<b.nm)(ok:Mv.ok b k)(uU:b.ng≤3)(Ta:k<6)(hl:h.lies<64)
 (hs:∀g,g<3→-100000≤s g∧s g≤100000)(hm:-1000≤h.real k∧h.real k≤1000):
 CallsIn SF 0 prog 65 #[b.val,mE s,h.val,int i64 k] w fun e w'=>e=.returned (mE (Fy b s h k))∧Below w.heap.size w w':=by
 obtain⟨days,most,gA,ng,gc,g,mA,nm,mc,m,cA,nc,cc,c⟩:=b
 obtain⟨hf,hmm,lies⟩:=h
 simp only at hk uU hl
 obtain⟨o1,o2,-,-,-⟩:=ok
 simp only at o1 o2
 have hnm:=hA.nm
 simp only at hnm
 unfold maxLen at hnm
 have hR:∀w,CallsIn SF 0 prog 45 #[.agg #[int i64 (hf 0),int i64 (hf 1),int i64 (hf 2),int i64 (hmm 0),int i64 (hmm 1),int i64 (hmm 2),int i64 (hmm 3),int i64 (hmm 4),int i64 (hmm 5),int i64 lies],int i64 k] w fun e w'=>e=.returned (int i64 ((⟨hf,hmm,lies⟩:Ht).real k))∧Below w.heap.size w w':=fun w=>nX ⟨hf,hmm,lies⟩ k w hl Ta
 obtain⟨rk,fN⟩:∃rk,rk=(⟨hf,hmm,lies⟩:Ht).real k:=⟨_,rfl⟩
 have hd:Fy ⟨days,most,gA,ng,gc,g,mA,nm,mc,m,cA,nc,cc,c⟩ s ⟨hf,hmm,lies⟩ k=fun(q:Nat)=>if (m k).good=(q:Int) then s q+(if (m k).kind=0∨(m k).kind=4 then rk else - rk) else s q:=by
  funext q;unfold Fy pT;rw[fN]
 rw[hd]
 rw[← fN] at hR hm
 clear hd fN
 have hS0:=hs 0 zD
 have hS1:=hs 1 zD
 have hS2:=hs 2 zD
 clear hs
 obtain⟨ad,hA',hbl,-⟩:=hA.m (show 0<nm by omega)
 simp only at hA'
 subst hA'
 simp only[Bk.val,Bk.cells,Ht.val,Ht.cells,mE]
 have hr:=hid (hA.m.row hk)
 have hB5:=hbl
 have hM:∃mk:Mv,mk=m k:=⟨_,rfl⟩
 obtain⟨mk,hmk⟩:=hM
 rw[← hmk] at o1 o2⊢
 have HR:=hid (show ∀j,j<5→w.cell? ((ad.add (k * 5)).add j)=some (mk.cell j) by rw[hmk];exact hr.out.2)
 clear hr hmk hA
 obtain⟨kd,gd,dy,lo,hi⟩:=mk
 simp only at o1 o2⊢
 have hlt:(ad.add (k * 5)).block<w.heap.size:=by rw[aD];exact hbl
 obtain⟨z0,hz0⟩:∃z,z=s 0:=⟨_,rfl⟩
 obtain⟨z1,hz1⟩:∃z,z=s 1:=⟨_,rfl⟩
 obtain⟨z2,hz2⟩:∃z,z=s 2:=⟨_,rfl⟩
 simp only[← hz0,← hz1,← hz2] at hS0 hS1 hS2⊢
 clear hz0 hz1 hz2
 have e:∀j,j<5→((((w.alloc (.cells #[int i64 days,int i64 most,.slice gA ng gc,.slice (some ad) nm mc,.slice cA nc cc] 71)).alloc (.cells #[int i64 z0,int i64 z1,int i64 z2] 75)).alloc (.cells #[int i64 (hf 0),int i64 (hf 1),int i64 (hf 2),int i64 (hmm 0),int i64 (hmm 1),int i64 (hmm 2),int i64 (hmm 3),int i64 (hmm 4),int i64 (hmm 5),int i64 lies] 78)).alloc (.cells #[int i64 0,int i64 0,int i64 0] 75)).cell? ((ad.add (k * 5)).add j)=some ((⟨kd,gd,dy,lo,hi⟩:Mv).cell j):=fun j hj=>((bw:Below w.heap.size w ((((w.alloc (.cells #[int i64 days,int i64 most,.slice gA ng gc,.slice (some ad) nm mc,.slice cA nc cc] 71)).alloc (.cells #[int i64 z0,int i64 z1,int i64 z2] 75)).alloc (.cells #[int i64 (hf 0),int i64 (hf 1),int i64 (hf 2),int i64 (hmm 0),int i64 (hmm 1),int i64 (hmm 2),int i64 (hmm 3),int i64 (hmm 4),int i64 (hmm 5),int i64 lies] 78)).alloc (.cells #[int i64 0,int i64 0,int i64 0] 75))).cell (by rw[aD,aD];exact hbl)).trans (HR.out j hj)
 have c0:((((w.alloc (.cells #[int i64 days,int i64 most,.slice gA ng gc,.slice (some ad) nm mc,.slice cA nc cc] 71)).alloc (.cells #[int i64 z0,int i64 z1,int i64 z2] 75)).alloc (.cells #[int i64 (hf 0),int i64 (hf 1),int i64 (hf 2),int i64 (hmm 0),int i64 (hmm 1),int i64 (hmm 2),int i64 (hmm 3),int i64 (hmm 4),int i64 (hmm 5),int i64 lies] 78)).alloc (.cells #[int i64 0,int i64 0,int i64 0] 75)).cell? (ad.add (k * 5))=some (int i64 kd):=e 0 zD
 have c1:((((w.alloc (.cells #[int i64 days,int i64 most,.slice gA ng gc,.slice (some ad) nm mc,.slice cA nc cc] 71)).alloc (.cells #[int i64 z0,int i64 z1,int i64 z2] 75)).alloc (.cells #[int i64 (hf 0),int i64 (hf 1),int i64 (hf 2),int i64 (hmm 0),int i64 (hmm 1),int i64 (hmm 2),int i64 (hmm 3),int i64 (hmm 4),int i64 (hmm 5),int i64 lies] 78)).alloc (.cells #[int i64 0,int i64 0,int i64 0] 75)).cell? ⟨(ad.add (k * 5)).block,(ad.add (k * 5)).off+1,none⟩=some (int i64 gd):=e 1 zD
 have c2:((((w.alloc (.cells #[int i64 days,int i64 most,.slice gA ng gc,.slice (some ad) nm mc,.slice cA nc cc] 71)).alloc (.cells #[int i64 z0,int i64 z1,int i64 z2] 75)).alloc (.cells #[int i64 (hf 0),int i64 (hf 1),int i64 (hf 2),int i64 (hmm 0),int i64 (hmm 1),int i64 (hmm 2),int i64 (hmm 3),int i64 (hmm 4),int i64 (hmm 5),int i64 lies] 78)).alloc (.cells #[int i64 0,int i64 0,int i64 0] 75)).cell? ⟨(ad.add (k * 5)).block,(ad.add (k * 5)).off+2,none⟩=some (int i64 dy):=e 2 zD
 have c3:((((w.alloc (.cells #[int i64 days,int i64 most,.slice gA ng gc,.slice (some ad) nm mc,.slice cA nc cc] 71)).alloc (.cells #[int i64 z0,int i64 z1,int i64 z2] 75)).alloc (.cells #[int i64 (hf 0),int i64 (hf 1),int i64 (hf 2),int i64 (hmm 0),int i64 (hmm 1),int i64 (hmm 2),int i64 (hmm 3),int i64 (hmm 4),int i64 (hmm 5),int i64 lies] 78)).alloc (.cells #[int i64 0,int i64 0,int i64 0] 75)).cell? ⟨(ad.add (k * 5)).block,(ad.add (k * 5)).off+3,none⟩=some (int i64 lo):=e 3 zD
 have c4:((((w.alloc (.cells #[int i64 days,int i64 most,.slice gA ng gc,.slice (some ad) nm mc,.slice cA nc cc] 71)).alloc (.cells #[int i64 z0,int i64 z1,int i64 z2] 75)).alloc (.cells #[int i64 (hf 0),int i64 (hf 1),int i64 (hf 2),int i64 (hmm 0),int i64 (hmm 1),int i64 (hmm 2),int i64 (hmm 3),int i64 (hmm 4),int i64 (hmm 5),int i64 lies] 78)).alloc (.cells #[int i64 0,int i64 0,int i64 0] 75)).cell? ⟨(ad.add (k * 5)).block,(ad.add (k * 5)).off+4,none⟩=some (int i64 hi):=e 4 zD
 clear e
 gi_enter func65,ntmps65
 gi_wp2
 obtain⟨wq,hwq⟩:∃wq,wq=((((w.alloc (.cells #[int i64 days,int i64 most,.slice gA ng gc,.slice (some ad) nm mc,.slice cA nc cc] 71)).alloc (.cells #[int i64 z0,int i64 z1,int i64 z2] 75)).alloc (.cells #[int i64 (hf 0),int i64 (hf 1),int i64 (hf 2),int i64 (hmm 0),int i64 (hmm 1),int i64 (hmm 2),int i64 (hmm 3),int i64 (hmm 4),int i64 (hmm 5),int i64 lies] 78)).alloc (.cells #[int i64 0,int i64 0,int i64 0] 75)).alloc (.cells #[int i64 kd,int i64 gd,int i64 dy,int i64 lo,int i64 hi] 41):=⟨_,rfl⟩
 have hq1:Whole wq (w.heap.size+1) 75 #[int i64 z0,int i64 z1,int i64 z2]:=by
  have e:=((((Whole.new (w.alloc (.cells #[int i64 days,int i64 most,.slice gA ng gc,.slice (some ad) nm mc,.slice cA nc cc] 71)) 75 #[int i64 z0,int i64 z1,int i64 z2]).alloc (.cells #[int i64 (hf 0),int i64 (hf 1),int i64 (hf 2),int i64 (hmm 0),int i64 (hmm 1),int i64 (hmm 2),int i64 (hmm 3),int i64 (hmm 4),int i64 (hmm 5),int i64 lies] 78)).alloc (.cells #[int i64 0,int i64 0,int i64 0] 75)).alloc (.cells #[int i64 kd,int i64 gd,int i64 dy,int i64 lo,int i64 hi] 41))
  rw[hwq];simpa using e
 have hq2:Whole wq (w.heap.size+2) 78 #[int i64 (hf 0),int i64 (hf 1),int i64 (hf 2),int i64 (hmm 0),int i64 (hmm 1),int i64 (hmm 2),int i64 (hmm 3),int i64 (hmm 4),int i64 (hmm 5),int i64 lies]:=by
  have e:=((Whole.new ((w.alloc (.cells #[int i64 days,int i64 most,.slice gA ng gc,.slice (some ad) nm mc,.slice cA nc cc] 71)).alloc (.cells #[int i64 z0,int i64 z1,int i64 z2] 75)) 78 #[int i64 (hf 0),int i64 (hf 1),int i64 (hf 2),int i64 (hmm 0),int i64 (hmm 1),int i64 (hmm 2),int i64 (hmm 3),int i64 (hmm 4),int i64 (hmm 5),int i64 lies]).alloc (.cells #[int i64 0,int i64 0,int i64 0] 75)).alloc (.cells #[int i64 kd,int i64 gd,int i64 dy,int i64 lo,int i64 hi] 41)
  rw[hwq];simpa using e
 have hq3:Whole wq (w.heap.size+3) 75 #[int i64 0,int i64 0,int i64 0]:=by
  have e:=(Whole.new (((w.alloc (.cells #[int i64 days,int i64 most,.slice gA ng gc,.slice (some ad) nm mc,.slice cA nc cc] 71)).alloc (.cells #[int i64 z0,int i64 z1,int i64 z2] 75)).alloc (.cells #[int i64 (hf 0),int i64 (hf 1),int i64 (hf 2),int i64 (hmm 0),int i64 (hmm 1),int i64 (hmm 2),int i64 (hmm 3),int i64 (hmm 4),int i64 (hmm 5),int i64 lies] 78)) 75 #[int i64 0,int i64 0,int i64 0]).alloc (.cells #[int i64 kd,int i64 gd,int i64 dy,int i64 lo,int i64 hi] 41)
  rw[hwq];simpa using e
 have hq4:Whole wq (w.heap.size+4) 41 #[int i64 kd,int i64 gd,int i64 dy,int i64 lo,int i64 hi]:=by
  have e:=Whole.new ((((w.alloc (.cells #[int i64 days,int i64 most,.slice gA ng gc,.slice (some ad) nm mc,.slice cA nc cc] 71)).alloc (.cells #[int i64 z0,int i64 z1,int i64 z2] 75)).alloc (.cells #[int i64 (hf 0),int i64 (hf 1),int i64 (hf 2),int i64 (hmm 0),int i64 (hmm 1),int i64 (hmm 2),int i64 (hmm 3),int i64 (hmm 4),int i64 (hmm 5),int i64 lies] 78)).alloc (.cells #[int i64 0,int i64 0,int i64 0] 75)) 41 #[int i64 kd,int i64 gd,int i64 dy,int i64 lo,int i64 hi]
  rw[hwq];simpa using e
 have hbq:Below w.heap.size w wq:=by rw[hwq];exact bw
 have LO:wq.heap.size=w.heap.size+5:=by rw[hwq];simp
 rw[← hwq]
 clear c0 c1 c2 c3 c4 hwq HR hlt hbl hB5
 have g2:Whole wq (w.heap.size+1+1) _ _:=hq2
 have g3:Whole wq (w.heap.size+1+1+1) _ _:=hq3
 have g4:Whole wq (w.heap.size+1+1+1+1) _ _:=hq4
 clear hq2 hq3 hq4
 have t1:w.heap.size+1<wq.heap.size:=zo
 have t2:w.heap.size+1+1<wq.heap.size:=zo
 have t3:w.heap.size+1+1+1<wq.heap.size:=zo
 have t4:w.heap.size+1+1+1+1<wq.heap.size:=zo
 have a0:=hq1.cell 0
 have a1:=hq1.cell 1
 have a2:=hq1.cell 2
 have af:=hq1.thaw
 have d0:=g4.cell 0
 have d1:=g4.cell 1
 have h0:=g2.cell 0
 have h1:=g2.cell 1
 have h2:=g2.cell 2
 have h3:=g2.cell 3
 have h4:=g2.cell 4
 have h5:=g2.cell 5
 have h6:=g2.cell 6
 have h7:=g2.cell 7
 have h8:=g2.cell 8
 have h9:=g2.cell 9
 obtain⟨xk,fk,fp,Xn⟩:=TB o1
 have hix:=fun w=>(Xn w).1
 have hif:=fun w=>(Xn w).2
 clear Xn
 have me:=hid hbq
 have ZA:∀a b:Int,-100000≤a∧a≤100000→-1000≤b∧b≤1000→wrap64 (a+b)=a+b∧wrap64 (a - b)=a - b:=fun a b h1 h2=>⟨IntWalk.wrap64_in _ zo,IntWalk.wrap64_in _ zo⟩
 have ws0:=hid (ZA _ _ hS0 hm)
 have ws1:=hid (ZA _ _ hS1 hm)
 have ws2:=hid (ZA _ _ hS2 hm)
 clear hbq ZA hS0 hS1 hS2 hm
 have My:=cell_regrown a0
 have Mz:=cell_regrown a1
 have MA:=cell_regrown a2
 have MD:=cell_regrown d0
 have MM:=cell_regrown d1
 have MT:=cell_regrown h0
 have MY:=cell_regrown h1
 have M':=cell_regrown h2
 have Nd:=cell_regrown h3
 have Nm:=cell_regrown h4
 have No:=cell_regrown h5
 have Nx:=cell_regrown h6
 have NF:=cell_regrown h7
 have NL:=cell_regrown h8
 have NN:=cell_regrown h9
 have cK:∀d os,CallsIn SF 0 prog 96 #[] (grow (redrawn wq d) os) fun e w''=>e=.returned (.agg xV)∧∃p:Regrown,w''=grow (redrawn wq p.d) p.os:=fun d os=>CallsIn.regrown_of (XA _)
 have cR:∀d os,CallsIn SF 0 prog 45 #[.agg #[int i64 (hf 0),int i64 (hf 1),int i64 (hf 2),int i64 (hmm 0),int i64 (hmm 1),int i64 (hmm 2),int i64 (hmm 3),int i64 (hmm 4),int i64 (hmm 5),int i64 lies],int i64 k] (grow (redrawn wq d) os) fun e w''=>e=.returned (int i64 rk)∧∃p:Regrown,w''=grow (redrawn wq p.d) p.os:=fun d os=>CallsIn.regrown_of (hR _)
 have cM:∀x y d os,CallsIn SF 0 prog 116 #[int i64 x,int i64 y] (grow (redrawn wq d) os) fun e w''=>e=.returned (int i64 (wrap64 (x+y)))∧∃p:Regrown,w''=grow (redrawn wq p.d) p.os:=fun x y d os=>CallsIn.regrown_of ((gz x y _).mono fun e w' h=>⟨h.1,h.2 ▸ Below.refl _ _⟩)
 have cL:∀x y d os,CallsIn SF 0 prog 117 #[int i64 x,int i64 y] (grow (redrawn wq d) os) fun e w''=>e=.returned (int i64 (wrap64 (x - y)))∧∃p:Regrown,w''=grow (redrawn wq p.d) p.os:=fun x y d os=>CallsIn.regrown_of ((gn x y _).mono fun e w' h=>⟨h.1,h.2 ▸ Below.refl _ _⟩)
 have Q1:=hid hq1
 have Q3:=hid g3
 clear a0 a1 a2 af d0 d1 h0 h1 h2 h3 h4 h5 h6 h7 h8 h9 t1 t2 t3 t4 hR hq1 g2 g3 g4
 have fin:∀ (zg u:Int) (f:Nat),(f=116∧(kd=0∨kd=4)∧u=zg+rk∨f=117∧¬ (kd=0∨kd=4)∧u=zg - rk)→wrap64 (zg+rk)=zg+rk∧wrap64 (zg - rk)=zg - rk→
  (∀d os,CallsIn SF 0 prog f #[int i64 zg,int i64 rk] (grow (redrawn wq d) os) fun e w''=>e=.returned (int i64 u)∧∃p:Regrown,w''=grow (redrawn wq p.d) p.os):=fun zg u f h hw d os=>by
  rcases h with⟨rfl,-,rfl⟩|⟨rfl,-,rfl⟩
  ·have:=cM zg rk d os;rwa[hw.1] at this
  ·have:=cL zg rk d os;rwa[hw.2] at this
 clear cM cL
 have hU:∀zg:Int,∃u,u=zg+(if kd=0∨kd=4 then rk else - rk)∧(fk=116∧(kd=0∨kd=4)∧u=zg+rk∨fk=117∧¬ (kd=0∨kd=4)∧u=zg - rk):=fun zg=>by
  rcases fp with⟨h1,h2⟩|⟨h1,h2⟩
  ·exact⟨_,rfl,.inl ⟨h1,h2,by rw[if_pos h2]⟩⟩
  ·exact⟨_,rfl,.inr ⟨h1,h2,by rw[if_neg h2];omega⟩⟩
 obtain⟨u0,hu0,hv0⟩:=hU z0
 obtain⟨u1,hu1,hv1⟩:=hU z1
 obtain⟨u2,hu2,hv2⟩:=hU z2
 have mr:=fin z0 u0 fk hv0 ws0.out
 have mw:=fin z1 u1 fk hv1 ws1.out
 have mx:=fin z2 u2 fk hv2 ws2.out
 have HU0:=hid hu0
 have HU1:=hid hu1
 have HU2:=hid hu2
 clear hU fin hv0 hv1 hv2 hu0 hu1 hu2 ws0 ws1 ws2
 have J':fk=116∨fk=117:=fp.imp (·.1) (·.1)
 clear fp
 rcases J' with rfl|rfl
 all_goals
  rcases(show gd=0∨gd=1∨gd=2 by omega) with rfl|rfl|rfl
  all_goals clear o1 o2
  ·refine aJ 16 rfl zk zk ?_
   simp only[List.take_succ_cons,List.take_zero,List.drop_succ_cons,List.drop_zero]
   repeat (quiet_step_in (first|exact cK _ _|exact cR _ _|exact mr _ _|exact mw _ _|exact mx _ _))
   refine wpQuietIn_nil ?_
   rintro w' ⟨⟨dq,osq⟩,rfl⟩
   have bE:=below_regrown wq dq osq
   clear MT MY M' Nd Nm No Nx NF NL NN My Mz MA MD MM cK cR mr mw mx hix hif
   generalize grow (redrawn wq dq) osq=w9 at bE⊢
   have W1:=Q1.out.below bE Q1.out.lt
   have W3:=Q3.out.below bE Q3.out.lt
   have x0:=W1.cell 0
   have x1:=W1.cell 1
   have x2:=W1.cell 2
   have xf:=W1.thaw
   have yc:=W3.cell
   have yf:=W3.thaw
   have l1:=W1.lt
   have l3:=W3.lt
   have V3:=hid W3
   have Sw:=hid (me.out.trans (bE.mono zo))
   clear bE Q1 Q3 me W1 W3 LO hnm hl uU Ta hk
   rename_i Kr Qr hKr
   refine wpListIn_plain rfl (fun K hK=>?_)
   go_simp
   refine hK _ _ (wpListIn_nil (hKr _ _ ?_))
   clear hKr Kr hK K
   apply wpIn_seq_k
   intro K hK
   apply wpIn_region_lit
   refine wpListIn_plain rfl (fun K2 hK2=>?_)
   go_simp
   refine hK2 _ _ ?_
   clear hK2 K2
   refine wpListIn_plain rfl (fun K2 hK2=>?_)
   go_simp
   refine hK2 _ _ (wpListIn_nil (hK _ _ ?_))
   clear hK2 K2 hK K
   apply wpIn_ret
   have U0:=V3.out.other (p:=⟨w.heap.size+1,0,none⟩) zm (int i64 u0)
   have U3:=((U0.set 0 (int i64 u0)).set 1 (int i64 z1)).set 2 (int i64 z2)
   have q0:=U3.cell 0
   have q1:=U3.cell 1
   have q2:=U3.cell 2
   clear x0 x1 x2 xf yc yf l1 l3
   refine bodyPost_ret (v:=.agg #[int i64 u0,int i64 z1,int i64 z2]) (by simp[results,results65,go_sem,q0,q1,q2]) rfl ⟨?_,?_⟩
   ·rw[HU0.out];simp
   ·exact(((Sw.out.setCell (p:=⟨w.heap.size+1,0,none⟩) (Nat.le_succ _) _).setCell (p:=⟨w.heap.size+1+1+1,0,none⟩) (by show w.heap.size≤w.heap.size+1+1+1;omega) _).setCell (p:=⟨w.heap.size+1+1+1,1,none⟩) (by show w.heap.size≤w.heap.size+1+1+1;omega) _).setCell (p:=⟨w.heap.size+1+1+1,2,none⟩) (by show w.heap.size≤w.heap.size+1+1+1;omega) _
  ·refine aJ 16 rfl zk zk ?_
   simp only[List.take_succ_cons,List.take_zero,List.drop_succ_cons,List.drop_zero]
   repeat (quiet_step_in (first|exact cK _ _|exact cR _ _|exact mr _ _|exact mw _ _|exact mx _ _))
   refine wpQuietIn_nil ?_
   rintro w' ⟨⟨dq,osq⟩,rfl⟩
   have bE:=below_regrown wq dq osq
   clear MT MY M' Nd Nm No Nx NF NL NN My Mz MA MD MM cK cR mr mw mx hix hif
   generalize grow (redrawn wq dq) osq=w9 at bE⊢
   have W1:=Q1.out.below bE Q1.out.lt
   have W3:=Q3.out.below bE Q3.out.lt
   have x0:=W1.cell 0
   have x1:=W1.cell 1
   have x2:=W1.cell 2
   have xf:=W1.thaw
   have yc:=W3.cell
   have yf:=W3.thaw
   have l1:=W1.lt
   have l3:=W3.lt
   have V3:=hid W3
   have Sw:=hid (me.out.trans (bE.mono zo))
   clear bE Q1 Q3 me W1 W3 LO hnm hl uU Ta hk
   rename_i Kr Qr hKr
   refine wpListIn_plain rfl (fun K hK=>?_)
   go_simp
   refine hK _ _ (wpListIn_nil (hKr _ _ ?_))
   clear hKr Kr hK K
   apply wpIn_seq_k
   intro K hK
   apply wpIn_region_lit
   refine wpListIn_plain rfl (fun K2 hK2=>?_)
   go_simp
   refine hK2 _ _ ?_
   clear hK2 K2
   refine wpListIn_plain rfl (fun K2 hK2=>?_)
   go_simp
   refine hK2 _ _ (wpListIn_nil (hK _ _ ?_))
   clear hK2 K2 hK K
   apply wpIn_ret
   have U0:=V3.out.other (p:=⟨w.heap.size+1,1,none⟩) zm (int i64 u1)
   have U3:=((U0.set 0 (int i64 z0)).set 1 (int i64 u1)).set 2 (int i64 z2)
   have q0:=U3.cell 0
   have q1:=U3.cell 1
   have q2:=U3.cell 2
   clear x0 x1 x2 xf yc yf l1 l3
   refine bodyPost_ret (v:=.agg #[int i64 z0,int i64 u1,int i64 z2]) (by simp[results,results65,go_sem,q0,q1,q2]) rfl ⟨?_,?_⟩
   ·rw[HU1.out];simp
   ·exact(((Sw.out.setCell (p:=⟨w.heap.size+1,1,none⟩) (Nat.le_succ _) _).setCell (p:=⟨w.heap.size+1+1+1,0,none⟩) (by show w.heap.size≤w.heap.size+1+1+1;omega) _).setCell (p:=⟨w.heap.size+1+1+1,1,none⟩) (by show w.heap.size≤w.heap.size+1+1+1;omega) _).setCell (p:=⟨w.heap.size+1+1+1,2,none⟩) (by show w.heap.size≤w.heap.size+1+1+1;omega) _
  ·refine aJ 16 rfl zk zk ?_
   simp only[List.take_succ_cons,List.take_zero,List.drop_succ_cons,List.drop_zero]
   repeat (quiet_step_in (first|exact cK _ _|exact cR _ _|exact mr _ _|exact mw _ _|exact mx _ _))
   refine wpQuietIn_nil ?_
   rintro w' ⟨⟨dq,osq⟩,rfl⟩
   have bE:=below_regrown wq dq osq
   clear MT MY M' Nd Nm No Nx NF NL NN My Mz MA MD MM cK cR mr mw mx hix hif
   generalize grow (redrawn wq dq) osq=w9 at bE⊢
   have W1:=Q1.out.below bE Q1.out.lt
   have W3:=Q3.out.below bE Q3.out.lt
   have x0:=W1.cell 0
   have x1:=W1.cell 1
   have x2:=W1.cell 2
   have xf:=W1.thaw
   have yc:=W3.cell
   have yf:=W3.thaw
   have l1:=W1.lt
   have l3:=W3.lt
   have V3:=hid W3
   have Sw:=hid (me.out.trans (bE.mono zo))
   clear bE Q1 Q3 me W1 W3 LO hnm hl uU Ta hk
   rename_i Kr Qr hKr
   refine wpListIn_plain rfl (fun K hK=>?_)
   go_simp
   refine hK _ _ (wpListIn_nil (hKr _ _ ?_))
   clear hKr Kr hK K
   apply wpIn_seq_k
   intro K hK
   apply wpIn_region_lit
   refine wpListIn_plain rfl (fun K2 hK2=>?_)
   go_simp
   refine hK2 _ _ ?_
   clear hK2 K2
   refine wpListIn_plain rfl (fun K2 hK2=>?_)
   go_simp
   refine hK2 _ _ (wpListIn_nil (hK _ _ ?_))
   clear hK2 K2 hK K
   apply wpIn_ret
   have U0:=V3.out.other (p:=⟨w.heap.size+1,2,none⟩) zm (int i64 u2)
   have U3:=((U0.set 0 (int i64 z0)).set 1 (int i64 z1)).set 2 (int i64 u2)
   have q0:=U3.cell 0
   have q1:=U3.cell 1
   have q2:=U3.cell 2
   clear x0 x1 x2 xf yc yf l1 l3
   refine bodyPost_ret (v:=.agg #[int i64 z0,int i64 z1,int i64 u2]) (by simp[results,results65,go_sem,q0,q1,q2]) rfl ⟨?_,?_⟩
   ·rw[HU2.out];simp
   ·exact(((Sw.out.setCell (p:=⟨w.heap.size+1,2,none⟩) (Nat.le_succ _) _).setCell (p:=⟨w.heap.size+1+1+1,0,none⟩) (by show w.heap.size≤w.heap.size+1+1+1;omega) _).setCell (p:=⟨w.heap.size+1+1+1,1,none⟩) (by show w.heap.size≤w.heap.size+1+1+1;omega) _).setCell (p:=⟨w.heap.size+1+1+1,2,none⟩) (by show w.heap.size≤w.heap.size+1+1+1;omega) _
end Go.Proofs.YtmjjocnfidnelaaGreat.W
namespace Go.Proofs.YtmjjocnfidnelaaGreat
open Go.RowKit
theorem vZ(b:Bk)(s:Nat→Int)(h:Ht)(k:Nat)(w:World)(hA:b.At w w.heap.size)(hk:k<b.nm)(ok:Mv.ok b k)(uU:b.ng≤3)(Ta:k<6)(hl:h.lies<64)
 (hs:∀g,g<3→-100000≤s g∧s g≤100000)(hm:-1000≤h.real k∧h.real k≤1000):
 CallsIn FF 0 prog 65 #[b.val,mE s,h.val,int i64 k] w fun e w'=>e=.returned (mE (Fy b s h k))∧Below w.heap.size w w':=
 CallsIn.wider (W.vZ b s h k w hA hk ok uU Ta hl hs hm)
end Go.Proofs.YtmjjocnfidnelaaGreat
namespace Go.Proofs.YtmjjocnfidnelaaGreat
section
open Go.RowKit
section
variable{w w':World}{b B n:Nat}{t:TypeId}{cs:Array Value}{x y z x' y' z':Value}
theorem Whole.bQ(h:Whole w b t cs)(hb:b≠B):Whole (((w.setCell ⟨B,0,none⟩ x).setCell ⟨B,1,none⟩ y).setCell ⟨B,2,none⟩ z) b t cs:=
 ((h.other (p:=⟨B,0,none⟩) hb x).other (p:=⟨B,1,none⟩) hb y).other (p:=⟨B,2,none⟩) hb z
theorem Whole.iH(h:Whole w B t #[x',y',z']):Whole (((w.setCell ⟨B,0,none⟩ x).setCell ⟨B,1,none⟩ y).setCell ⟨B,2,none⟩ z) B t #[x,y,z]:=
 ((h.set 0 x).set 1 y).set 2 z
theorem aA(h:Below n w w')(hB:n≤B):Below n w (((w'.setCell ⟨B,0,none⟩ x).setCell ⟨B,1,none⟩ y).setCell ⟨B,2,none⟩ z):=
 ((h.setCell (p:=⟨B,0,none⟩) hB x).setCell (p:=⟨B,1,none⟩) hB y).setCell (p:=⟨B,2,none⟩) hB z
end
structure oW(h:Ht):Prop where
 f:∀i,i<3→0≤h.f i∧h.f i≤99
 m:∀i,i<6→0≤h.m i∧h.m i≤99
 lies:h.lies<64
theorem oW.real{h:Ht}(ok:oW h){k:Nat}(hk:k<6):0≤h.real k∧h.real k≤99:=by
 unfold Ht.real
 have:=ok.m k hk
 split <;> omega
def stk(b:Bk)(h:Ht)(d:Int):Nat→Nat→Int
 | 0=>h.f
 | Nat.succ k=>if (b.m k).day≤d then Fy b (stk b h d k) h k else stk b h d k
theorem UH{b:Bk}{h:Ht}(ok:oW h)(d:Int):∀k:Nat,k≤6→∀g:Nat,g<3→-99 * (k:Int)≤stk b h d k g∧stk b h d k g≤99 * ((k:Int)+1)
 | 0,_,g,hg=>by have:=ok.f g hg;simp only[stk];omega
 | k+1,hk,g,hg=>by
   have ih:=UH (b:=b) ok d k zo g hg
   have hr:=ok.real (k:=k) zo
   simp only[stk]
   split
   ·unfold Fy pT
    split <;> (try split) <;> (push_cast;omega)
   ·push_cast;omega
theorem gF(b:Bk)(h:Ht)(d:Int)(w:World)(hA:b.At w w.heap.size)(ok:kE b)(uU:b.ng≤3)(hok:oW h):
 CallsIn FF 0 prog 28 #[b.val,h.val,int i64 d] w fun e w'=>e=.returned (mE (stk b h d b.nm))∧Below w.heap.size w w':=by
 have Hv:∀ (s:Nat→Int) (k:Nat) (w:World),b.At w w.heap.size→k<b.nm→(∀g,g<3→-100000≤s g∧s g≤100000)→CallsIn FF 0 prog 65 #[b.val,mE s,h.val,int i64 k] w fun e w'=>e=.returned (mE (Fy b s h k))∧Below w.heap.size w w':=fun s k w hA hk hs=>
  vZ b s h k w hA hk (ok.2 k hk) uU (Nat.lt_of_lt_of_le hk ok.1) hok.lies hs (by have:=hok.real (k:=k) (Nat.lt_of_lt_of_le hk ok.1);omega)
 have hst:Hid (∀k:Nat,k≤b.nm→∀g:Nat,g<3→-100000≤stk b h d k g∧stk b h d k g≤100000):=hid fun k hk g hg=>by
  have:=UH (b:=b) hok d k (Nat.le_trans hk ok.1) g hg
  have:=ok.1
  omega
 have Tc:=ok.1
 obtain⟨days,most,gA,ng,gc,g,mA,nm,mc,m,cA,nc,cc,c⟩:=b
 obtain⟨hf,hmm,lies⟩:=h
 simp only[Bk.val,Bk.cells,Ht.val,Ht.cells,mE] at Hv⊢
 simp only at uU Tc
 obtain⟨S,hS⟩:∃S,S=stk (⟨days,most,gA,ng,gc,g,mA,nm,mc,m,cA,nc,cc,c⟩:Bk) ⟨hf,hmm,lies⟩ d:=⟨_,rfl⟩
 have hS0:S 0=hf:=by rw[hS];rfl
 have Z':∀k,S (k+1)=if (m k).day≤d then Fy (⟨days,most,gA,ng,gc,g,mA,nm,mc,m,cA,nc,cc,c⟩:Bk) (S k) ⟨hf,hmm,lies⟩ k else S k:=fun k=>by rw[hS];rfl
 rw[← hS] at hst⊢
 clear hS ok hok
 have HA:=hid hA
 have B6:=hid Hv
 have SO:=hid Z'
 clear hA Hv Z'
 obtain⟨w4,hw4⟩:∃w4,w4=(((w.alloc (.cells #[int i64 days,int i64 most,.slice gA ng gc,.slice mA nm mc,.slice cA nc cc] 71)).alloc (.cells #[int i64 (hf 0),int i64 (hf 1),int i64 (hf 2),int i64 (hmm 0),int i64 (hmm 1),int i64 (hmm 2),int i64 (hmm 3),int i64 (hmm 4),int i64 (hmm 5),int i64 lies] 78)).alloc (.cells #[int i64 0,int i64 0,int i64 0] 75)).alloc (.cells #[int i64 (hf 0),int i64 (hf 1),int i64 (hf 2)] 75):=⟨_,rfl⟩
 have W0:Hid (Whole w4 w.heap.size 71 #[int i64 days,int i64 most,.slice gA ng gc,.slice mA nm mc,.slice cA nc cc]):=hid (by rw[hw4];exact(((Whole.new w _ _).alloc _).alloc _).alloc _)
 have W1:Hid (Whole w4 (w.heap.size+1) 78 #[int i64 (hf 0),int i64 (hf 1),int i64 (hf 2),int i64 (hmm 0),int i64 (hmm 1),int i64 (hmm 2),int i64 (hmm 3),int i64 (hmm 4),int i64 (hmm 5),int i64 lies]):=hid (by
  have:=((Whole.new (w.alloc (.cells #[int i64 days,int i64 most,.slice gA ng gc,.slice mA nm mc,.slice cA nc cc] 71)) 78 #[int i64 (hf 0),int i64 (hf 1),int i64 (hf 2),int i64 (hmm 0),int i64 (hmm 1),int i64 (hmm 2),int i64 (hmm 3),int i64 (hmm 4),int i64 (hmm 5),int i64 lies]).alloc (.cells #[int i64 0,int i64 0,int i64 0] 75)).alloc (.cells #[int i64 (hf 0),int i64 (hf 1),int i64 (hf 2)] 75)
  rw[World.size_alloc] at this;rw[hw4];exact this)
 have W2:Hid (Whole w4 (w.heap.size+1+1) 75 #[int i64 0,int i64 0,int i64 0]):=hid (by
  have:=(Whole.new ((w.alloc (.cells #[int i64 days,int i64 most,.slice gA ng gc,.slice mA nm mc,.slice cA nc cc] 71)).alloc (.cells #[int i64 (hf 0),int i64 (hf 1),int i64 (hf 2),int i64 (hmm 0),int i64 (hmm 1),int i64 (hmm 2),int i64 (hmm 3),int i64 (hmm 4),int i64 (hmm 5),int i64 lies] 78)) 75 #[int i64 0,int i64 0,int i64 0]).alloc (.cells #[int i64 (hf 0),int i64 (hf 1),int i64 (hf 2)] 75)
  rw[World.size_alloc,World.size_alloc] at this;rw[hw4];exact this)
 have W3:Hid (Whole w4 (w.heap.size+1+1+1) 75 #[int i64 (S 0 0),int i64 (S 0 1),int i64 (S 0 2)]):=hid (by
  have:=Whole.new (((w.alloc (.cells #[int i64 days,int i64 most,.slice gA ng gc,.slice mA nm mc,.slice cA nc cc] 71)).alloc (.cells #[int i64 (hf 0),int i64 (hf 1),int i64 (hf 2),int i64 (hmm 0),int i64 (hmm 1),int i64 (hmm 2),int i64 (hmm 3),int i64 (hmm 4),int i64 (hmm 5),int i64 lies] 78)).alloc (.cells #[int i64 0,int i64 0,int i64 0] 75)) 75 #[int i64 (hf 0),int i64 (hf 1),int i64 (hf 2)]
  rw[World.size_alloc,World.size_alloc,World.size_alloc] at this;rw[hw4,hS0];exact this)
 have WB:Hid (Below w.heap.size w w4):=hid (by rw[hw4];exact bw)
 have pd:=hid hw4
 clear hw4 hS0
 gi_enter func28,ntmps28
 gi_wp2
 rw[← pd.out]
 clear pd
 gi_loopw [16] (fun i wr=>∃k:Nat,k≤nm∧i=int i64 k∧Hid (Whole wr w.heap.size 71 #[int i64 days,int i64 most,.slice gA ng gc,.slice mA nm mc,.slice cA nc cc]∧Whole wr (w.heap.size+1) 78 #[int i64 (hf 0),int i64 (hf 1),int i64 (hf 2),int i64 (hmm 0),int i64 (hmm 1),int i64 (hmm 2),int i64 (hmm 3),int i64 (hmm 4),int i64 (hmm 5),int i64 lies]∧Whole wr (w.heap.size+1+1) 75 #[int i64 0,int i64 0,int i64 0]∧Whole wr (w.heap.size+1+1+1) 75 #[int i64 (S k 0),int i64 (S k 1),int i64 (S k 2)]∧Below w.heap.size w wr)) (fun i _=>nm - (intOf i).toNat)
 case atStart=>exact⟨0,Nat.zero_le _,rfl,hid ⟨W0.out,W1.out,W2.out,W3.out,WB.out⟩⟩
 case round=>
  obtain⟨k,hk,rfl,hR⟩:=hrel
  clear W0 W1 W2 W3 WB
  by_cases hlt:k<nm
  ·obtain⟨wo,rfl⟩:∃wo:World,wo=wr:=⟨_,rfl⟩
   have hs3:=hR.out.2.2.2.1.lt
   have hsz:w.heap.size≤wo.heap.size:=zo
   obtain⟨ad,hA',hbl,-⟩:=HA.out.m (show 0<nm by omega)
   simp only at hA'
   subst hA'
   have hr:=(HA.out.m.below hR.out.2.2.2.2).row hlt
   have c0:wo.cell? (ad.add (k * 5))=some (int i64 (m k).kind):=hr.2 0 zD
   have c1:wo.cell? ⟨(ad.add (k * 5)).block,(ad.add (k * 5)).off+1,none⟩=some (int i64 (m k).good):=hr.2 1 zD
   have c2:wo.cell? ⟨(ad.add (k * 5)).block,(ad.add (k * 5)).off+2,none⟩=some (int i64 (m k).day):=hr.2 2 zD
   have c3:wo.cell? ⟨(ad.add (k * 5)).block,(ad.add (k * 5)).off+3,none⟩=some (int i64 (m k).lo):=hr.2 3 zD
   have c4:wo.cell? ⟨(ad.add (k * 5)).block,(ad.add (k * 5)).off+4,none⟩=some (int i64 (m k).hi):=hr.2 4 zD
   clear hr
   have q0:=hR.out.1.cell
   have q1:=hR.out.2.1.cell
   have q3:=hR.out.2.2.2.1.cell
   have t0:w.heap.size<wo.heap.size:=zo
   have t1:w.heap.size+1<wo.heap.size:=zo
   have t2:w.heap.size+1+1<wo.heap.size:=zo
   by_cases JZ:(m k).day≤d
   ·have hdd:decide ((m k).day≤d)=true:=decide_eq_true JZ
    have sW:=SO.out k
    rw[if_pos JZ] at sW
    have fE:=hid sW
    clear sW
    gi_wp2_with (gi_at_call 65;refine(B6.out (S k) k _ ((HA.out.below (hR.out.2.2.2.2.trans (bw))).more zm) hlt (hst.out k zo)).mono ?_;rintro e w2 ⟨rfl,hb2⟩;have HB2:Hid (Below wo.heap.size wo w2):=hid ((bw:Below wo.heap.size wo _).trans (hb2.mono zs));clear hb2;have y3:=hR.out.2.2.2.1.below HB2.out hs3;have yc:=y3.cell;have yf:=y3.thaw)
    go_roundw
    case rel=>
     refine⟨k+1,zo,by go_num,hid ⟨(hR.out.1.below HB2.out t0).bQ zo,(hR.out.2.1.below HB2.out t1).bQ zo,(hR.out.2.2.1.below HB2.out t2).bQ zo,?_,aA (hR.out.2.2.2.2.trans (HB2.out.mono hsz)) zo⟩⟩
     rw[fE.out]
     exact y3.iH
    case measure=>simp[intOf];omega
   ·have hdd:decide ((m k).day≤d)=false:=decide_eq_false JZ
    have sW:=SO.out k
    rw[if_neg JZ] at sW
    have fE:=hid sW
    clear sW
    gi_wp2
    go_roundw
    case rel=>exact⟨k+1,zo,by go_num,hid ⟨hR.out.1.alloc _,hR.out.2.1.alloc _,hR.out.2.2.1.alloc _,by rw[fE.out];exact hR.out.2.2.2.1.alloc _,hR.out.2.2.2.2.alloc hsz _⟩⟩
    case measure=>simp[intOf];omega
  ·obtain rfl:k=nm:=zo
   have q3:=hR.out.2.2.2.1.cell
   have q2:=hR.out.2.2.1.cell
   have OS:=hR.out.2.2.1.thaw
   gi_wp2
   have U:=(hR.out.2.2.1.iH (x:=int i64 (S k 0)) (y:=int i64 (S k 1)) (z:=int i64 (S k 2)))
   have u0:=U.cell 0
   have u1:=U.cell 1
   have u2:=U.cell 2
   clear q3 q2 OS
   refine bodyPost_ret (v:=.agg #[int i64 (S k 0),int i64 (S k 1),int i64 (S k 2)]) (by simp[results,results28,go_sem,u0,u1,u2]) rfl ⟨rfl,aA hR.out.2.2.2.2 zo⟩
end
end Go.Proofs.YtmjjocnfidnelaaGreat
