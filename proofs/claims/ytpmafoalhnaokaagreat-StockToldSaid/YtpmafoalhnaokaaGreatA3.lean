/- P9 P10 P11 P12 P13 P21 TK1 P18 WP12 WP13 WP18 P19 P20 WA -/
import Derived.Test.YtpmafoalhnaokaaGreatA2
set_option maxRecDepth 100000
set_option maxHeartbeats 16000000
set_option linter.unusedVariables false
set_option linter.unusedSectionVars false
open Go.IntKind(i64)
open Go.Lib(hid)
open Go.Proofs.Tryz
open Go.Value(int)
namespace Go.Proofs.YtpmafoalhnaokaaGreat
section
open Go.RowKit
def Bk.iz(b:Bk)(A:Option Addr)(n p:Nat):Value:=.agg (b.cells ++ #[.slice A n p])
def SE(b:Bk)(w:World)(e:Ending)(w':World):Prop:=∃A p,e=.returned (.tuple #[b.iz A (bP b (2 ^ b.nm)).length p,int i64 0])∧
 w'.ownsRow w.heap.size 3 1 (.slice A (bP b (2 ^ b.nm)).length p) (bP b (2 ^ b.nm)).length ((bP b (2 ^ b.nm)).map (int i64))∧Below w.heap.size w w'
theorem dh{w:World}{base b:Nat}{e:TypeId}{v:Value}{size n:Nat}{l:List Value}(h:w.ownsRow base e size v n l)(hb:b≤base):w.ownsRow b e size v n l:=
 ⟨h.1,h.2.imp id fun⟨g,cap,cur,h1,h2,h3⟩=>⟨g,cap,cur,h1,Nat.le_trans hb h2,h3⟩⟩
theorem Vb(b:Bk)(w:World)(h:b.At w w.heap.size)(ok:b.Ok)(hcap:b.ng≤b.gc):CallsIn FF 0 prog 37 #[b.val] w (fun e w'=>∃A p,e=.returned (.tuple #[b.iz A (bP b (2 ^ b.nm)).length p,int i64 0])∧w'.ownsRow w.heap.size 3 1 (.slice A (bP b (2 ^ b.nm)).length p) (bP b (2 ^ b.nm)).length ((bP b (2 ^ b.nm)).map (int i64))∧Below w.heap.size w w'∧jQ w' (.slice A (bP b (2 ^ b.nm)).length p)):=by
 obtain⟨dY,mO,gA,ng,gc,g,mA,nm,mc,m,cA,nc,cc,c⟩:=b
 have hC:∀w,(⟨dY,mO,gA,ng,gc,g,mA,nm,mc,m,cA,nc,cc,c⟩:Bk).At w w.heap.size→CallsIn FF 0 prog 42 #[.agg #[int i64 dY,int i64 mO,.slice gA ng gc,.slice mA nm mc,.slice cA nc cc]] w fun e w'=>e=.returned (int i64 0)∧Below w.heap.size w w':=fun w h=>XJ ⟨dY,mO,gA,ng,gc,g,mA,nm,mc,m,cA,nc,cc,c⟩ w h ok hcap
 have hL:∀w,(⟨dY,mO,gA,ng,gc,g,mA,nm,mc,m,cA,nc,cc,c⟩:Bk).At w w.heap.size→CallsIn FF 0 prog 78 #[.agg #[int i64 dY,int i64 mO,.slice gA ng gc,.slice mA nm mc,.slice cA nc cc]] w fun e w'=>∃v,e=.returned v∧w'.ownsRow w.heap.size 3 1 v (bP ⟨dY,mO,gA,ng,gc,g,mA,nm,mc,m,cA,nc,cc,c⟩ (2 ^ nm)).length ((bP ⟨dY,mO,gA,ng,gc,g,mA,nm,mc,m,cA,nc,cc,c⟩ (2 ^ nm)).map (int i64))∧Below w.heap.size w w'∧jQ w' v:=fun w h=>Ox ⟨dY,mO,gA,ng,gc,g,mA,nm,mc,m,cA,nc,cc,c⟩ w h ok.moves.1
 simp only[Bk.val,Bk.iz,Bk.cells]
 have Hh:=hid h
 clear h ok hcap
 gi_enter func37,ntmps37
 gi_wp2_with (gi_at_call 42;refine(hC _ (Hh.out.below (bw) |>.more zm)).mono ?_;rintro e w2 ⟨rfl,hb2⟩;obtain⟨hc2,hf2⟩:=fH hb2;have hs2:w.heap.size+1<w2.heap.size:=by have:=hb2.size;simp at this;omega)
 have hW2:Below w.heap.size w w2:=(bw:Below w.heap.size w _).trans (hb2.mono zm)
 have hZ:Whole ((w.alloc (.cells #[int i64 dY,int i64 mO,.slice gA ng gc,.slice mA nm mc,.slice cA nc cc] 26)).alloc (.cells #[int i64 0,int i64 0,.slice none 0 0,.slice none 0 0,.slice none 0 0,.slice none 0 0] 75)) (w.heap.size+1) 75 #[int i64 0,int i64 0,.slice none 0 0,.slice none 0 0,.slice none 0 0,.slice none 0 0]:=by
  have e:=Whole.new (w.alloc (.cells #[int i64 dY,int i64 mO,.slice gA ng gc,.slice mA nm mc,.slice cA nc cc] 26)) 75 #[int i64 0,int i64 0,.slice none 0 0,.slice none 0 0,.slice none 0 0,.slice none 0 0]
  rwa[show(w.alloc (.cells #[int i64 dY,int i64 mO,.slice gA ng gc,.slice mA nm mc,.slice cA nc cc] 26)).heap.size=w.heap.size+1 by simp] at e
 have hZ2:Hid (Whole w2 (w.heap.size+1) 75 #[int i64 0,int i64 0,.slice none 0 0,.slice none 0 0,.slice none 0 0,.slice none 0 0]):=hid (hZ.below hb2 zs)
 clear hZ
 gi_region_with (gi_at_call 78;refine(hL _ (Hh.out.below (bw) |>.more zm)).mono ?_;rintro e w3 ⟨v,rfl,hown,hb3,SP⟩;obtain⟨A3,c3,rfl⟩:=fZ hown;have ho3:=dh (b:=w2.heap.size) hown zs;clear hown;obtain⟨hc3,hf3⟩:=fH hb3;have hs3:w2.heap.size<w3.heap.size:=(by have:=hb3.size;simp at this;omega);have hw3:Below w2.heap.size w2 w3:=(bw:Below w2.heap.size w2 _).trans (hb3.mono zs);have hZ3:=(hZ2.out.below hw3 zo).cell;have hT3:=(hZ2.out.below hw3 zo).thaw)
 all_goals
  gi_wp2
  have hF:=((((((hZ2.out.below hw3 zo).set 0 (int i64 dY)).set 1 (int i64 mO)).set 2 (.slice gA ng gc)).set 3 (.slice mA nm mc)).set 4 (.slice cA nc cc)).set 5 (.slice A3 (bP ⟨dY,mO,gA,ng,gc,g,mA,nm,mc,m,cA,nc,cc,c⟩ (2 ^ nm)).length c3)
  have q0:=hF.cell 0
  have q1:=hF.cell 1
  have q2:=hF.cell 2
  have q3:=hF.cell 3
  have q4:=hF.cell 4
  have q5:=hF.cell 5
  clear hZ3 hT3 hc3 hf3
  refine bodyPost_ret (v:=.tuple #[.agg #[int i64 dY,int i64 mO,.slice gA ng gc,.slice mA nm mc,.slice cA nc cc,.slice A3 (bP ⟨dY,mO,gA,ng,gc,g,mA,nm,mc,m,cA,nc,cc,c⟩ (2 ^ nm)).length c3],int i64 0]) (by simp[results,results37,go_sem,q0,q1,q2,q3,q4,q5]) rfl ⟨A3,c3,rfl,?_,?_,?_⟩
  ·refine dh (base:=w2.heap.size) ?_ zo
   refine bS ?_ hs2 _
   refine bS ?_ hs2 _
   refine bS ?_ hs2 _
   refine bS ?_ hs2 _
   refine bS ?_ hs2 _
   refine bS ?_ hs2 _
   exact ho3
  ·have bg:Below w.heap.size w w3:=hW2.trans (hw3.mono zo)
   refine Below.setCell ?_ (Nat.le_succ _) _
   refine Below.setCell ?_ (Nat.le_succ _) _
   refine Below.setCell ?_ (Nat.le_succ _) _
   refine Below.setCell ?_ (Nat.le_succ _) _
   refine Below.setCell ?_ (Nat.le_succ _) _
   refine Below.setCell ?_ (Nat.le_succ _) _
   exact bg
  ·have hne:∀q,(Value.slice A3 (bP ⟨dY,mO,gA,ng,gc,g,mA,nm,mc,m,cA,nc,cc,c⟩ (2 ^ nm)).length c3).ownBlock=some q→q≠w.heap.size+1:=fun q hq=>by have:=(bL ho3 hq).1;omega
   exact(((((SP.other hne _).other hne _).other hne _).other hne _).other hne _).other hne _
theorem Vd(b:Bk)(w:World)(h:b.At w w.heap.size)(ok:b.Ok)(hcap:b.ng≤b.gc):CallsIn FF 0 prog 37 #[b.val] w (SE b w):=
 (Vb b w h ok hcap).mono fun _ _ ⟨A,p,he,ho,hb,_⟩=>⟨A,p,he,ho,hb⟩
theorem Kw(xs:Nat→Int)(A:Option Addr)(n p:Nat)(top:Int)(w:World)(hI:Ints w w.heap.size A n xs)(hn:n≤maxLen)(hx:∀i,i<n→0≤xs i∧xs i≤top):CallsIn FF 0 prog 67 #[.slice A n p,int i64 n,int i64 top] w fun e w'=>e=.returned (int i64 0)∧Below w.heap.size w w':=by
 unfold maxLen at hn
 have HI:=hid hI
 have Hx:=hid hx
 clear hI hx
 gi_enter func67,ntmps67
 gi_wp2
 gi_loopw [15] (fun i wr=>∃k:Nat,k≤n∧i=int i64 k∧wr=w) (fun i _=>n - (intOf i).toNat)
 case atStart=>exact⟨0,Nat.zero_le _,rfl,rfl⟩
 case round=>
  obtain⟨k,hk,rfl,rfl⟩:=hrel
  by_cases hlt:k<n
  ·obtain⟨ad,rfl,-⟩:=HI.out (show 0<n by omega)
   have ck:=Ints.at_ HI.out hlt
   have ik:=hid (bH.2 (Hx.out k hlt))
   gi_wp2_with (gi_at_call 65;refine(dn _ _ _ _).mono ?_;rintro e w' ⟨he,rfl⟩;rw[ik.out] at he;subst he)
   go_roundw
   case rel=>exact⟨k+1,zo,by go_num,zT⟩
   case measure=>simp[intOf];omega
  ·gi_wp2
   go_ret
   exact⟨rfl,zB⟩
theorem Vn(xs:Nat→Int)(A:Option Addr)(n p M:Nat)(w:World)(hI:Ints w w.heap.size A n xs)(hn:n≤maxLen)(hM:M≤maxLen)(hx:∀i,i<n→0≤xs i∧xs i≤(M:Int) - 1)(hup:∀i,i+1<n→xs i<xs (i+1)):CallsIn FF 0 prog 119 #[.slice A n p,int i64 M] w fun e w'=>e=.returned (int i64 0)∧Below w.heap.size w w':=by
 unfold maxLen at hn hM
 have HI:=hid hI
 have Hx:=hid hx
 have Hu:=hid hup
 clear hI hx hup
 have eM:IntKind.i64.wrap ((M:Int) - 1)=(M:Int) - 1:=IntWalk.i64_in _ zo
 gi_enter func119,ntmps119
 gi_wp2
 gi_loopw [9] (fun i wr=>∃k:Nat,k≤n∧i=int i64 k∧wr=w) (fun i _=>n - (intOf i).toNat)
 case atStart=>exact⟨0,Nat.zero_le _,rfl,rfl⟩
 case round=>
  obtain⟨k,hk,rfl,rfl⟩:=hrel
  by_cases hlt:k<n
  ·obtain⟨ad,rfl,-⟩:=HI.out (show 0<n by omega)
   have ck:=Ints.at_ HI.out hlt
   have ik:=hid (bH.2 (Hx.out k hlt))
   by_cases hk0:0<k
   ·have hd:decide (0<(k:Int))=true:=zm
    have cj:=Ints.at_ HI.out (show k - 1<n by omega)
    have hu:=Hu.out (k - 1) zo
    rw[show k - 1+1=k by omega] at hu
    have hd2:decide (xs k≤xs (k - 1))=false:=decide_eq_false zo
    have e2:0≤(k:Int) - 1:=zo
    have e2':1≤(k:Int):=zo
    have e4:(k:Int) - 1<n:=zo
    have e3:((k:Int) - 1).toNat=k - 1:=zo
    have e1:IntKind.i64.wrap ((k:Int) - 1)=(k:Int) - 1:=IntWalk.i64_in _ zo
    gi_wp2_with (gi_at_call 65;refine(dn _ _ _ _).mono ?_;rintro e w' ⟨he,rfl⟩;rw[ik.out] at he;subst he)
    all_goals first
     | exact⟨⟨k+1,zo,by go_num,zT⟩,by simp[intOf];omega⟩
     | (go_roundw
        case rel=>exact⟨k+1,zo,by go_num,zT⟩
        case measure=>simp[intOf];omega)
   ·have hd:decide (0<(k:Int))=false:=zm
    gi_wp2_with (first|(exact absurd ‹some undef=some (Value.bool _)› (by simp[undef]))|(gi_at_call 65;refine(dn _ _ _ _).mono ?_;rintro e w' ⟨he,rfl⟩;rw[ik.out] at he;subst he))
    all_goals first
     | exact⟨⟨k+1,zo,by go_num,zT⟩,by simp[intOf];omega⟩
     | (go_roundw
        case rel=>exact⟨k+1,zo,by go_num,zT⟩
        case measure=>simp[intOf];omega)
  ·gi_wp2
   go_ret
   exact⟨rfl,zB⟩
def dX(b:Bk)(k:Nat):List Int:=((List.range k).filter fun i=>decide ((b.m i).kind=0)).map fun(n:Nat)=>(n:Int)
theorem ES(b:Bk)(k:Nat):dX b (k+1)=dX b k ++ if (b.m k).kind=0 then[(k:Int)] else[]:=by
 unfold dX
 rw[List.range_succ,List.filter_append,List.map_append]
 by_cases h:(b.m k).kind=0 <;> simp[h]
theorem vI(b:Bk)(k:Nat):(dX b k).length≤k:=by
 unfold dX
 rw[List.length_map]
 exact Nat.le_trans (List.length_filter_le _ _) zs
theorem YL(b:Bk)(w:World)(h:b.At w w.heap.size)(hm:b.nm≤6):CallsIn FF 0 prog 113 #[b.val] w fun e w'=>∃v,e=.returned v∧w'.ownsRow w.heap.size 3 1 v (dX b b.nm).length ((dX b b.nm).map (int i64))∧Below w.heap.size w w':=by
 obtain⟨dY,mO,gA,ng,gc,g,mA,nm,mc,m,cA,nc,cc,c⟩:=b
 simp only[Bk.val,Bk.cells]
 simp only at hm
 have Hh:=hid h
 clear h
 obtain⟨i0,hi,hz0,hz1,hz2⟩:=info_parts info3
 have hi0:=hid hi
 clear hi
 gi_enter func113,ntmps113
 gi_wp2
 gi_loopw [3,9] (fun l i wr=>∃k:Nat,k≤nm∧i=int i64 k∧Hid (wr.ownsRow (w.heap.size+1) 3 1 l (dX ⟨dY,mO,gA,ng,gc,g,mA,nm,mc,m,cA,nc,cc,c⟩ k).length ((dX ⟨dY,mO,gA,ng,gc,g,mA,nm,mc,m,cA,nc,cc,c⟩ k).map (int i64))∧Below (w.heap.size+1) (w.alloc (.cells #[int i64 dY,int i64 mO,.slice gA ng gc,.slice mA nm mc,.slice cA nc cc] 73)) wr)) (fun _ i _=>nm - (intOf i).toNat)
 case atStart=>exact⟨0,Nat.zero_le _,rfl,hid ⟨pq _ (w.heap.size+1) 3,zB⟩⟩
 case round=>
  obtain⟨k,hk,rfl,hR⟩:=hrel
  obtain⟨A,n,cp,rfl⟩:=iq hR.out.1
  have hsz:w.heap.size+1≤wr.heap.size:=by have:=hR.out.2.size;simpa using this
  have Yn:w.heap.size<wr.heap.size:=hsz
  have hbx:∀o,wr.cell? ⟨w.heap.size,o,none⟩=(w.alloc (.cells #[int i64 dY,int i64 mO,.slice gA ng gc,.slice mA nm mc,.slice cA nc cc] 73)).cell? ⟨w.heap.size,o,none⟩:=fun o=>hR.out.2.cell (p:=⟨w.heap.size,o,none⟩) zs
  by_cases hlt:k<nm
  ·obtain⟨wo,rfl⟩:∃wo:World,wo=wr:=zE
   have hN:CallsIn FF 0 prog 56 #[.agg #[int i64 dY,int i64 mO,.slice gA ng gc,.slice mA nm mc,.slice cA nc cc],int i64 k] wo fun e w'=>e=.returned (.bool (decide ((m k).kind=0)))∧Below wo.heap.size wo w':=uG ⟨dY,mO,gA,ng,gc,g,mA,nm,mc,m,cA,nc,cc,c⟩ k wo ((((Hh.out.alloc zL (.cells #[int i64 dY,int i64 mO,.slice gA ng gc,.slice mA nm mc,.slice cA nc cc] 73)).more (Nat.le_succ _)).below hR.out.2).more hsz) hlt
   have e4:=ES ⟨dY,mO,gA,ng,gc,g,mA,nm,mc,m,cA,nc,cc,c⟩ k
   have hle:=vI ⟨dY,mO,gA,ng,gc,g,mA,nm,mc,m,cA,nc,cc,c⟩ k
   simp only at e4
   by_cases hz:(m k).kind=0
   ·rw[decide_eq_true hz] at hN
    rw[if_pos hz] at e4
    have E4:=hid e4
    clear e4
    gi_wp2_with (first
     | (gi_at_call 56;refine hN.mono ?_;rintro e w3 ⟨rfl,hb3⟩;have HB3:=hid hb3;have Ho:=hid (own_below hR.out.1 hb3);have hs3:=hb3.size;clear hb3)
     | (gi_at_builtin;refine aD rfl rfl rfl fun K5 iH=>?_;refine wp_append_lies _ _ _ _ rfl (w.heap.size+1) 3 i0 _ 1 8 underlying51 hi0.out hz0 hz1 hz2 rfl zo (.slice A n cp) (dX ⟨dY,mO,gA,ng,gc,g,mA,nm,mc,m,cA,nc,cc,c⟩ k).length _ rfl (bD Ho.out _) ⟨w3.heap.size,0,none⟩ 1 1 [_] rfl rfl (World.news_of_block (heap_alloc_new w3 _)) (by simp[Value.oneCell']) zo zU zo zm (w3.heap.size+1) zs ?_;intro jN gQ w5 hown5 aN kX mP;refine iH _ _ ?_;clear iH K5))
    go_roundw
    case rel=>exact⟨k+1,zo,by go_num,hid ⟨by rw[E4.out,List.length_append,List.map_append];exact hown5,((hR.out.2.trans (HB3.out.mono hsz)).alloc zo _).trans (below_grown aN zm (fun g hg=>(bL Ho.out hg).1))⟩⟩
    case measure=>simp[intOf];omega
   ·rw[decide_eq_false hz] at hN
    rw[if_neg hz,List.append_nil] at e4
    gi_wp2_with (gi_at_call 56;refine hN.mono ?_;rintro e w3 ⟨rfl,hb3⟩)
    go_roundw
    case rel=>exact⟨k+1,zo,by go_num,hid ⟨by rw[e4];exact own_below hR.out.1 hb3,hR.out.2.trans (hb3.mono hsz)⟩⟩
    case measure=>simp[intOf];omega
  ·obtain rfl:k=nm:=zo
   gi_wp2
   go_ret
   exact⟨_,rfl,dh hR.out.1 (Nat.le_succ _),(zB.alloc zL _).trans (hR.out.2.mono zs)⟩
theorem Pz(xs:Nat→Int)(A:Option Addr)(n p j:Nat)(w:World)(hI:Ints w w.heap.size A n xs)(hn:n≤maxLen)(hj:j<n)(hne:∀i,i<j→xs i≠xs j):CallsIn FF 0 prog 114 #[.slice A n p,int i64 (xs j)] w fun e w'=>e=.returned (int i64 j)∧Below w.heap.size w w':=by
 unfold maxLen at hn
 have HI:=hid hI
 have Hx:=hid hne
 clear hI hne
 obtain⟨x,hx⟩:∃x,x=xs j:=zE
 have HX:=hid hx
 rw[← hx]
 clear hx
 gi_enter func114,ntmps114
 gi_wp2
 gi_loopw [8] (fun i wr=>∃k:Nat,k≤j∧i=int i64 k∧wr=w) (fun i _=>n - (intOf i).toNat)
 case atStart=>exact⟨0,Nat.zero_le _,rfl,rfl⟩
 case round=>
  obtain⟨k,hk,rfl,rfl⟩:=hrel
  have hlt:k<n:=zo
  obtain⟨ad,rfl,-⟩:=HI.out (show 0<n by omega)
  have ck:=Ints.at_ HI.out hlt
  by_cases he:k=j
  ·subst he
   have hq:(x == xs k)=true:=by rw[HX.out];simp
   gi_wp2
   all_goals first
    | (go_ret;exact⟨rfl,zB⟩)
    | (exfalso;have:=HX.out;omega)
  ·have hne:x≠xs k:=by rw[HX.out];exact fun e=>Hx.out k zo e.symm
   have hq:(x == xs k)=false:=by simpa using hne
   gi_wp2
   all_goals first
    | exact⟨⟨k+1,zo,by go_num,zT⟩,by simp[intOf];omega⟩
    | (go_roundw
       case rel=>exact⟨k+1,zo,by go_num,zT⟩
       case measure=>simp[intOf];omega)
    | (exfalso;omega)
structure Ht where
 f:Nat→Int
 m:Nat→Int
 lies:Nat
def Ht.cells(h:Ht):Array Value:=#[int i64 (h.f 0),int i64 (h.f 1),int i64 (h.f 2),int i64 (h.m 0),int i64 (h.m 1),int i64 (h.m 2),int i64 (h.m 3),int i64 (h.m 4),int i64 (h.m 5),int i64 h.lies]
def Ht.val(h:Ht):Value:=.agg h.cells
def Ht.Jz(h:Ht)(k:Nat):Bool:=decide (h.lies / 2 ^ k % 2=1)
def Ht.real(h:Ht)(k:Nat):Int:=if h.Jz k then 0 else h.m k
def xY:Array Value:=#[.string {data:=#[99,97,109,101] },.func (.func 139) #[] #[],.string {data:=#[115,111,108,100] },.func (.func 140) #[] #[],.string {data:=#[108,111,115,116] },.func (.func 140) #[] #[],.string {data:=#[103,105,118,101,110] },.func (.func 140) #[] #[],.string {data:=#[98,97,99,107] },.func (.func 139) #[] #[]]
theorem MP(xs:Nat→Int)(A:Option Addr)(n p:Nat)(w:World)(hI:Ints w w.heap.size A n xs)(hn:0<n)(Rw:n≤3):
 CallsIn FF 0 prog 49 #[.slice A n p] w fun e w'=>∃A' p',e=.returned (.slice A' n p')∧Ints w' w'.heap.size A' n xs∧Below w.heap.size w w':=by
 obtain⟨ad,rfl,-⟩:=hI hn
 have HI:=hid hI
 clear hI
 obtain⟨i0,hi,hz0,hz1,hz2⟩:=info_parts info3
 have hi0:=hid hi
 clear hi
 have he:∀w,(binOp BinOp.eql 51 (.slice (some ad) n p) (.slice none 0 0)).run prog w=.ok (.bool false) w:=fun w=>zk
 gi_enter func49,ntmps49
 have hown:(w.alloc (.cells #[] 3)).ownsRow w.heap.size 3 1 (.slice (some ⟨w.heap.size,0,none⟩) 0 0) 0 []:=⟨rfl,.inr ⟨_,_,_,rfl,zL,heap_alloc_new w _,zL,Nat.zero_le _,rfl,rfl⟩⟩
 have AO:=hid hown
 clear hown
 have hnews:∀j u,((List.range n).map fun i=>int i64 (xs i))[j]? =some u→(w.alloc (.cells #[] 3)).cell? (ad.add j)=some u:=fun j u hu=>by
  have hj:j<n:=by
   have:=(List.getElem?_eq_some_iff.1 hu).1
   simpa using this
  have e:=Ints.at_ (HI.out.alloc zL (.cells #[] 3)) hj
  rw[e]
  simp[hj] at hu⊢
  exact hu
 have Hn:=hid hnews
 clear hnews
 gi_wp2_with (gi_at_builtin;refine aD rfl rfl rfl fun K5 iH=>?_;refine wp_append_lies _ _ _ _ rfl w.heap.size 3 i0 _ 1 8 underlying51 hi0.out hz0 hz1 hz2 rfl zo (.slice (some ⟨w.heap.size,0,none⟩) 0 0) 0 _ rfl AO.out ad n p ((List.range n).map fun i=>int i64 (xs i)) rfl zs Hn.out (by simp[Value.oneCell']) hn zU zo zs (w.heap.size+1) zs ?_;intro jN gQ w5 hown5 aN kX mP;refine iH _ _ ?_;clear iH K5)
 go_ret
 refine⟨_,_,rfl,?_,(zB.alloc zL _).trans (below_grown aN zs (fun g hg=>by cases hg;exact zL))⟩
 intro _
 obtain⟨g,cap,hv,_,hlt⟩:=hown5.form zo
 have hA:(some ⟨jN,0,none⟩:Option Addr)=some ⟨g,0,none⟩:=by injection hv
 cases hA
 refine⟨_,rfl,mP,fun i j hi hj=>?_⟩
 obtain rfl:j=0:=zo
 have:=hown5.cells (g:=jN) rfl i (int i64 (xs i)) (by simp[hi])
 simpa [Addr.add] using this
def dK(sz:Nat)(f:Nat→Nat→Value)(n:Nat):List Value:=(List.range n).flatMap fun i=>(List.range sz).map (f i)
theorem fK(sz:Nat)(f:Nat→Nat→Value):∀n,(dK sz f n).length=n * sz
 | 0=>by simp[dK]
 | Nat.succ n=>by
   have ih:=fK sz f n
   unfold dK at ih⊢
   rw[List.range_succ,List.flatMap_append,List.length_append,ih,Nat.succ_mul]
   simp
theorem tH(sz:Nat)(f:Nat→Nat→Value):∀n i j,i<n→j<sz→(dK sz f n)[i * sz+j]? =some (f i j)
 | 0,_,_,h,_=>by cases h
 | Nat.succ n,i,j,hi,hj=>by
   have hl:=fK sz f n
   have e:dK sz f (n+1)=dK sz f n ++ (List.range sz).map (f n):=by unfold dK;rw[List.range_succ,List.flatMap_append];simp
   rw[e]
   rcases Nat.lt_or_ge i n with h|h
   ·have hlt:i * sz+j<n * sz:=by
     have:=Nat.mul_le_mul_right sz (show i+1≤n by omega)
     rw[Nat.add_mul,Nat.one_mul] at this
     omega
    rw[List.getElem?_append_left zo]
    exact tH sz f n i j h hj
   ·obtain rfl:i=n:=zo
    rw[List.getElem?_append_right zo,hl,Nat.add_sub_cancel_left]
    simp[hj]
theorem NK{sz:Nat}(f:Nat→Nat→Value){n j:Nat}{u:Value}(hs:0<sz)(h:(dK sz f n)[j]? =some u):∃i q,i<n∧q<sz∧j=i * sz+q∧u=f i q:=by
 have hl:=fK sz f n
 have hj:j<n * sz:=by
  have:=(List.getElem?_eq_some_iff.1 h).1
  omega
 have hq:j % sz<sz:=Nat.mod_lt _ hs
 have hi:j / sz<n:=(Nat.div_lt_iff_lt_mul hs).2 hj
 have e:j=j / sz * sz+j % sz:=by rw[Nat.mul_comm];exact(Nat.div_add_mod j sz).symm
 refine⟨j / sz,j % sz,hi,hq,e,?_⟩
 have h2:=tH sz f n (j / sz) (j % sz) hi hq
 rw[← e,h] at h2
 exact Option.some.inj h2
theorem NG{w:World}{base:Nat}{e:TypeId}{size n:Nat}{A:Option Addr}{m c:Nat}{xs:List Value}(h:w.ownsRow base e size (.slice A m c) n xs):n≤c:=by
 rcases h.2 with⟨he,rfl⟩|⟨g,cap,cur,he,_,_,h1,h2,_⟩
 ·exact Nat.zero_le _
 ·injection he with e1 e2 e3
  omega
theorem lW{w:World}{base:Nat}{e:TypeId}{sz n p:Nat}{A:Option Addr}{f:Nat→Nat→Value}(h:w.ownsRow base e sz (.slice A n p) n (dK sz f n)):n≤p∧Rows w w.heap.size sz A n f:=by
 refine⟨NG h,fun hn=>?_⟩
 obtain⟨g,cap,hv,_,hlt⟩:=h.form hn
 injection hv with e1 e2 e3
 subst e1
 refine⟨_,rfl,hlt,fun i j hi hj=>?_⟩
 have:=h.cells (g:=g) rfl (i * sz+j) (f i j) (tH _ _ _ _ _ hi hj)
 rw[← this]
theorem sW{w:World}{base:Nat}{e:TypeId}{sz n p:Nat}{g o:Nat}{m:Nat}{xs:List Value}(h:w.ownsRow base e sz (.slice (some ⟨g,0,none⟩) n p) m xs):w.frozen? ⟨g,o,none⟩=false:=by
 rcases h.2 with⟨he,_⟩|⟨g',cap,cur,he,_,hg,_⟩
 ·cases he
 ·injection he with e1
  cases e1
  simp[World.frozen?,hg]
theorem IV{sz n i:Nat}(f:Nat→Nat→Value){q:Nat}(hq:q<sz)(v:Value):(dK sz f n).set (i * sz+q) v=dK sz (fun j r=>if j=i∧r=q then v else f j r) n:=by
 refine List.ext_getElem? fun j=>?_
 rw[List.getElem?_set]
 by_cases hj:j<n * sz
 ·have hs:0<sz:=zo
  have hr:j % sz<sz:=Nat.mod_lt _ hs
  have hk:j / sz<n:=(Nat.div_lt_iff_lt_mul hs).2 hj
  have e:j=j / sz * sz+j % sz:=by rw[Nat.mul_comm];exact(Nat.div_add_mod j sz).symm
  generalize j / sz=k at e hk
  generalize j % sz=r at e hr
  subst e
  rw[tH sz f n k r hk hr,tH sz _ n k r hk hr,fK]
  by_cases hc:i * sz+q=k * sz+r
  ·have hik:i=k:=by
    rcases Nat.lt_trichotomy i k with h|h|h
    ·have:=Nat.mul_le_mul_right sz (show i+1≤k by omega)
     rw[Nat.add_mul,Nat.one_mul] at this
     omega
    ·exact h
    ·have:=Nat.mul_le_mul_right sz (show k+1≤i by omega)
     rw[Nat.add_mul,Nat.one_mul] at this
     omega
   subst hik
   obtain rfl:q=r:=zo
   rw[if_pos rfl,if_pos hj]
   simp
  ·rw[if_neg hc,if_neg (fun h=>hc (by rw[h.1,h.2]))]
 ·have h1:(dK sz f n)[j]? =none:=List.getElem?_eq_none (by rw[fK];omega)
  have h2:∀g,(dK sz g n)[j]? =none:=fun g=>List.getElem?_eq_none (by rw[fK];omega)
  rw[h1,h2]
  split
  ·rw[if_neg (by rw[fK];omega)]
  ·rfl
theorem oW(w:World)(t:TypeId)(sz:Nat):(w.alloc (.cells #[] t)).ownsRow w.heap.size t sz (.slice (some ⟨w.heap.size,0,none⟩) 0 0) 0 []:=⟨zs,.inr ⟨_,_,_,rfl,zL,heap_alloc_new w _,zL,Nat.zero_le _,zs,zs⟩⟩
theorem oV{w:World}{sz n:Nat}{ad:Addr}{f:Nat→Nat→Value}(hs:0<sz)(h:Rows w w.heap.size sz (some ad) n f)(o:Obj):∀j u,(dK sz f n)[j]? =some u→(w.alloc o).cell? (ad.add j)=some u:=fun j u hu=>by
 obtain⟨i,q,hi,hq,rfl,rfl⟩:=NK _ hs hu
 have:=((h.alloc zL o).row hi).2 q hq
 rwa[mF] at this
theorem sV{sz n:Nat}{f:Nat→Nat→Value}(hs:0<sz)(hf:∀i q,(f i q).oneCell'=true):∀u∈dK sz f n,u.oneCell'=true:=fun u hu=>by
 obtain⟨j,hj,e⟩:=List.mem_iff_getElem.1 hu
 obtain⟨i,q,hi,hq,_,rfl⟩:=NK (j:=j) f hs (by rw[List.getElem?_eq_getElem hj,e])
 exact hf i q
theorem yA{w:World}{base X:Nat}{e:TypeId}{size n:Nat}{v:Value}{xs:List Value}(h:w.ownsRow base e size v n xs)(hX:X<base)(v0 v1 v2 v3 v4:Value):(((((w.setCell ⟨X,0,none⟩ v0).setCell ⟨X,1,none⟩ v1).setCell ⟨X,2,none⟩ v2).setCell ⟨X,3,none⟩ v3).setCell ⟨X,4,none⟩ v4).ownsRow base e size v n xs:=
 bS (p:=⟨X,4,none⟩) (bS (p:=⟨X,3,none⟩) (bS (p:=⟨X,2,none⟩) (bS (p:=⟨X,1,none⟩) (bS (p:=⟨X,0,none⟩) h hX v0) hX v1) hX v2) hX v3) hX v4
theorem Whole.rz{w:World}{X:Nat}{t:TypeId}{u0 u1 u2 u3 u4:Value}(h:Whole w X t #[u0,u1,u2,u3,u4])(v0 v1 v2 v3 v4:Value):Whole (((((w.setCell ⟨X,0,none⟩ v0).setCell ⟨X,1,none⟩ v1).setCell ⟨X,2,none⟩ v2).setCell ⟨X,3,none⟩ v3).setCell ⟨X,4,none⟩ v4) X t #[v0,v1,v2,v3,v4]:=((((h.set 0 v0).set 1 v1).set 2 v2).set 3 v3).set 4 v4
theorem Below.rz{B X:Nat}{w w':World}(h:Below B w w')(hX:B≤X)(v0 v1 v2 v3 v4:Value):Below B w (((((w'.setCell ⟨X,0,none⟩ v0).setCell ⟨X,1,none⟩ v1).setCell ⟨X,2,none⟩ v2).setCell ⟨X,3,none⟩ v3).setCell ⟨X,4,none⟩ v4):=
 ((((h.setCell (p:=⟨X,0,none⟩) hX v0).setCell (p:=⟨X,1,none⟩) hX v1).setCell (p:=⟨X,2,none⟩) hX v2).setCell (p:=⟨X,3,none⟩) hX v3).setCell (p:=⟨X,4,none⟩) hX v4
theorem Tryz.infoG:(Tryz.prog.info? 83).map (fun i=>(i.zero,i.size,i.bytes))=some (some (.agg #[.string .empty,int i64 0,int i64 0,int i64 0,int i64 0]),5,48):=zk
theorem Gu(f:Nat→Good)(A:Option Addr)(n p:Nat)(w:World)(hI:Rows w w.heap.size 5 A n (fun i=>(f i).cell))(ye:n≤6):
 CallsIn FF 0 prog 74 #[.slice A n p] w fun e w'=>∃A' p',e=.returned (.slice A' n p')∧w'.ownsRow w.heap.size 83 5 (.slice A' n p') n (dK 5 (fun i=>(f i).cell) n)∧Below w.heap.size w w':=by
 rcases Nat.eq_zero_or_pos n with rfl|hn
 ·cases A with
  | none=>
    have he:∀w,(binOp BinOp.eql 22 (.slice none 0 p) (.slice none 0 0)).run prog w=.ok (.bool true) w:=fun w=>zk
    gi_enter func74,ntmps74
    gi_wp2
    go_ret
    exact⟨_,_,rfl,⟨by simp[dK],.inl ⟨rfl,rfl⟩⟩,zB⟩
  | some ad=>
    have he:∀w,(binOp BinOp.eql 22 (.slice (some ad) 0 p) (.slice none 0 0)).run prog w=.ok (.bool false) w:=fun w=>zk
    gi_enter func74,ntmps74
    gi_wp2
    go_ret
    exact⟨_,_,rfl,⟨by simp[dK],.inr ⟨_,_,_,rfl,zL,heap_alloc_new w _,zL,Nat.zero_le _,rfl,by simp[dK]⟩⟩,bw⟩
 ·obtain⟨ad,rfl,-⟩:=hI hn
  have HI:=hid hI
  clear hI
  obtain⟨i0,hi,hz0,hz1,hz2⟩:=info_parts Tryz.infoG
  have hi0:=hid hi
  clear hi
  have he:∀w,(binOp BinOp.eql 22 (.slice (some ad) n p) (.slice none 0 0)).run prog w=.ok (.bool false) w:=fun w=>zk
  gi_enter func74,ntmps74
  have AO:=hid (oW w 83 5)
  have Hn:=hid (oV zD HI.out (.cells #[] 83))
  have Ho:=hid (sV (n:=n) (sz:=5) (f:=fun i=>(f i).cell) zD fun i q=>by show((f i).cell q).oneCell'=true;unfold Good.cell;split <;> rfl)
  gi_wp2_with (gi_at_builtin;refine aD rfl rfl rfl fun K5 iH=>?_;refine wp_append_lies _ _ _ _ rfl w.heap.size 83 i0 _ 5 48 underlying22 hi0.out hz0 hz1 hz2 rfl zo (.slice (some ⟨w.heap.size,0,none⟩) 0 0) 0 _ rfl AO.out ad n p (dK 5 (fun i=>(f i).cell) n) rfl (fK _ _ _) Hn.out Ho.out hn zU zo zs (w.heap.size+1) zs ?_;intro jN gQ w5 hown5 aN kX mP;refine iH _ _ ?_;clear iH K5)
  go_ret
  rw[List.nil_append,Nat.zero_add] at hown5
  exact⟨_,_,rfl,hown5,(zB.alloc zL _).trans (below_grown aN zs (fun g hg=>by cases hg;exact zL))⟩
theorem OW(f:Nat→Mv)(A:Option Addr)(n p:Nat)(w:World)(hI:Rows w w.heap.size 5 A n (fun i=>(f i).cell))(ye:n≤6):
 CallsIn FF 0 prog 75 #[.slice A n p] w fun e w'=>∃A' p',e=.returned (.slice A' n p')∧w'.ownsRow w.heap.size 39 5 (.slice A' n p') n (dK 5 (fun i=>(f i).cell) n)∧Below w.heap.size w w':=by
 rcases Nat.eq_zero_or_pos n with rfl|hn
 ·cases A with
  | none=>
    have he:∀w,(binOp BinOp.eql 23 (.slice none 0 p) (.slice none 0 0)).run prog w=.ok (.bool true) w:=fun w=>zk
    gi_enter func75,ntmps75
    gi_wp2
    go_ret
    exact⟨_,_,rfl,⟨by simp[dK],.inl ⟨rfl,rfl⟩⟩,zB⟩
  | some ad=>
    have he:∀w,(binOp BinOp.eql 23 (.slice (some ad) 0 p) (.slice none 0 0)).run prog w=.ok (.bool false) w:=fun w=>zk
    gi_enter func75,ntmps75
    gi_wp2
    go_ret
    exact⟨_,_,rfl,⟨by simp[dK],.inr ⟨_,_,_,rfl,zL,heap_alloc_new w _,zL,Nat.zero_le _,rfl,by simp[dK]⟩⟩,bw⟩
 ·obtain⟨ad,rfl,-⟩:=hI hn
  have HI:=hid hI
  clear hI
  obtain⟨i0,hi,hz0,hz1,hz2⟩:=info_parts Tryz.infoM
  have hi0:=hid hi
  clear hi
  have he:∀w,(binOp BinOp.eql 23 (.slice (some ad) n p) (.slice none 0 0)).run prog w=.ok (.bool false) w:=fun w=>zk
  gi_enter func75,ntmps75
  have AO:=hid (oW w 39 5)
  have Hn:=hid (oV zD HI.out (.cells #[] 39))
  have Ho:=hid (sV (n:=n) (sz:=5) (f:=fun i=>(f i).cell) zD fun i q=>by show((f i).cell q).oneCell'=true;unfold Mv.cell;split <;> rfl)
  gi_wp2_with (gi_at_builtin;refine aD rfl rfl rfl fun K5 iH=>?_;refine wp_append_lies _ _ _ _ rfl w.heap.size 39 i0 _ 5 40 underlying23 hi0.out hz0 hz1 hz2 rfl zo (.slice (some ⟨w.heap.size,0,none⟩) 0 0) 0 _ rfl AO.out ad n p (dK 5 (fun i=>(f i).cell) n) rfl (fK _ _ _) Hn.out Ho.out hn zU zo zs (w.heap.size+1) zs ?_;intro jN gQ w5 hown5 aN kX mP;refine iH _ _ ?_;clear iH K5)
  go_ret
  rw[List.nil_append,Nat.zero_add] at hown5
  exact⟨_,_,rfl,hown5,(zB.alloc zL _).trans (below_grown aN zs (fun g hg=>by cases hg;exact zL))⟩
theorem Tryz.infoC:(Tryz.prog.info? 45).map (fun i=>(i.zero,i.size,i.bytes))=some (some (.agg #[int i64 0,int i64 0,int i64 0,int i64 0]),4,32):=zk
theorem OV(f:Nat→Ct)(A:Option Addr)(n p:Nat)(w:World)(hI:Rows w w.heap.size 4 A n (fun i=>(f i).cell))(ye:n≤6):
 CallsIn FF 0 prog 76 #[.slice A n p] w fun e w'=>∃A' p',e=.returned (.slice A' n p')∧w'.ownsRow w.heap.size 45 4 (.slice A' n p') n (dK 4 (fun i=>(f i).cell) n)∧Below w.heap.size w w':=by
 rcases Nat.eq_zero_or_pos n with rfl|hn
 ·cases A with
  | none=>
    have he:∀w,(binOp BinOp.eql 24 (.slice none 0 p) (.slice none 0 0)).run prog w=.ok (.bool true) w:=fun w=>zk
    gi_enter func76,ntmps76
    gi_wp2
    go_ret
    exact⟨_,_,rfl,⟨by simp[dK],.inl ⟨rfl,rfl⟩⟩,zB⟩
  | some ad=>
    have he:∀w,(binOp BinOp.eql 24 (.slice (some ad) 0 p) (.slice none 0 0)).run prog w=.ok (.bool false) w:=fun w=>zk
    gi_enter func76,ntmps76
    gi_wp2
    go_ret
    exact⟨_,_,rfl,⟨by simp[dK],.inr ⟨_,_,_,rfl,zL,heap_alloc_new w _,zL,Nat.zero_le _,rfl,by simp[dK]⟩⟩,bw⟩
 ·obtain⟨ad,rfl,-⟩:=hI hn
  have HI:=hid hI
  clear hI
  obtain⟨i0,hi,hz0,hz1,hz2⟩:=info_parts Tryz.infoC
  have hi0:=hid hi
  clear hi
  have he:∀w,(binOp BinOp.eql 24 (.slice (some ad) n p) (.slice none 0 0)).run prog w=.ok (.bool false) w:=fun w=>zk
  gi_enter func76,ntmps76
  have AO:=hid (oW w 45 4)
  have Hn:=hid (oV zD HI.out (.cells #[] 45))
  have Ho:=hid (sV (n:=n) (sz:=4) (f:=fun i=>(f i).cell) zD fun i q=>by show((f i).cell q).oneCell'=true;unfold Ct.cell;split <;> rfl)
  gi_wp2_with (gi_at_builtin;refine aD rfl rfl rfl fun K5 iH=>?_;refine wp_append_lies _ _ _ _ rfl w.heap.size 45 i0 _ 4 32 underlying24 hi0.out hz0 hz1 hz2 rfl zo (.slice (some ⟨w.heap.size,0,none⟩) 0 0) 0 _ rfl AO.out ad n p (dK 4 (fun i=>(f i).cell) n) rfl (fK _ _ _) Hn.out Ho.out hn zU zo zs (w.heap.size+1) zs ?_;intro jN gQ w5 hown5 aN kX mP;refine iH _ _ ?_;clear iH K5)
  go_ret
  rw[List.nil_append,Nat.zero_add] at hown5
  exact⟨_,_,rfl,hown5,(zB.alloc zL _).trans (below_grown aN zs (fun g hg=>by cases hg;exact zL))⟩
end
section
open Go.RowKit Go.Sort
theorem UC{kd:Int}(h:0≤kd∧kd≤4):∃ (x:ByteArray) (f:Nat),((f=139∧(kd=0∨kd=4))∨(f=140∧¬ (kd=0∨kd=4)))∧∀w:World,(Instr.index 165 (.agg xY) (int i64 kd)).run prog w=.ok (.agg #[.string x,.func (.func f) #[] #[]]) w∧(Instr.field 164 (.agg #[.string x,.func (.func f) #[] #[]]) 1).run prog w=.ok (.func (.func f) #[] #[]) w:=by
 rcases(show kd=0∨kd=1∨kd=2∨kd=3∨kd=4 by omega) with rfl|rfl|rfl|rfl|rfl
 ·exact⟨{data:=#[99,97,109,101] },_,.inl ⟨rfl,zD⟩,fun _=>⟨zk,zk⟩⟩
 ·exact⟨{data:=#[115,111,108,100] },_,.inr ⟨rfl,zD⟩,fun _=>⟨zk,zk⟩⟩
 ·exact⟨{data:=#[108,111,115,116] },_,.inr ⟨rfl,zD⟩,fun _=>⟨zk,zk⟩⟩
 ·exact⟨{data:=#[103,105,118,101,110] },_,.inr ⟨rfl,zD⟩,fun _=>⟨zk,zk⟩⟩
 ·exact⟨{data:=#[98,97,99,107] },_,.inl ⟨rfl,zD⟩,fun _=>⟨zk,zk⟩⟩
def mD(s:Nat→Int):Value:=.agg #[int i64 (s 0),int i64 (s 1),int i64 (s 2)]
def qv(b:Bk)(h:Ht)(k:Nat):Int:=if (b.m k).kind=0∨(b.m k).kind=4 then h.real k else - h.real k
def Bh(b:Bk)(s:Nat→Int)(h:Ht)(k:Nat)(g:Nat):Int:=if (b.m k).good=(g:Int) then s g+qv b h k else s g
end
end Go.Proofs.YtpmafoalhnaokaaGreat
namespace Go.Proofs.YtpmafoalhnaokaaGreat.W
open Go.RowKit
theorem oQ(h:Ht)(k:Nat)(w:World)(hl:h.lies<64)(hk:k<6):CallsIn SF 0 prog 59 #[h.val,int i64 k] w fun e w'=>e=.returned (.bool (h.Jz k))∧Below w.heap.size w w':=by
 obtain⟨f,m,lies⟩:=h
 simp only at hl
 simp only[Ht.val,Ht.cells,Ht.Jz]
 have e1:(lies:Int) / 2 ^ k=((lies / 2 ^ k:Nat):Int):=by push_cast;rfl
 have hle:lies / 2 ^ k≤lies:=Nat.div_le_self _ _
 have c2:bits BinOp.and IntKind.i64 ((lies:Int) / 2 ^ k) 1=((lies / 2 ^ k % 2:Nat):Int):=by rw[e1];exact and_one _ zo
 have c3:(bits BinOp.and IntKind.i64 ((lies:Int) / 2 ^ k) 1 == 1)=decide (lies / 2 ^ k % 2=1):=by
  rw[c2]
  by_cases h:lies / 2 ^ k % 2=1
  ·rw[h];rfl
  ·rw[decide_eq_false h];exact beq_eq_false_iff_ne.2 (fun e=>h (by exact_mod_cast e))
 clear c2 e1 hle
 have em:min k 64=k:=Nat.min_eq_left zo
 have C3:=hid c3
 clear c3
 gi_enter func59,ntmps59
 gi_wp2
 all_goals (go_ret;refine⟨?_,bw⟩;first|exact congrArg Ending.returned (congrArg Value.bool C3.out)|(rw[← C3.out,← em];simp)|trace_state)
theorem og(h:Ht)(k:Nat)(w:World)(hl:h.lies<64)(hk:k<6):CallsIn SF 0 prog 55 #[h.val,int i64 k] w fun e w'=>e=.returned (int i64 (h.real k))∧Below w.heap.size w w':=by
 obtain⟨f,m,lies⟩:=h
 have hF:∀w,CallsIn SF 0 prog 59 #[.agg #[int i64 (f 0),int i64 (f 1),int i64 (f 2),int i64 (m 0),int i64 (m 1),int i64 (m 2),int i64 (m 3),int i64 (m 4),int i64 (m 5),int i64 lies],int i64 k] w fun e w'=>e=.returned (.bool ((⟨f,m,lies⟩:Ht).Jz k))∧Below w.heap.size w w':=fun w=>oQ ⟨f,m,lies⟩ k w hl hk
 simp only[Ht.val,Ht.cells,Ht.real]
 obtain⟨bb,hb⟩:∃bb,bb=(⟨f,m,lies⟩:Ht).Jz k:=zE
 rw[← hb] at hF⊢
 clear hb
 cases bb
 all_goals
  rcases(show k=0∨k=1∨k=2∨k=3∨k=4∨k=5 by omega) with rfl|rfl|rfl|rfl|rfl|rfl
 all_goals
  gi_enter func55,ntmps55
  gi_wp2_with (gi_at_call 59;refine(hF _).mono ?_;rintro e w2 ⟨rfl,hb2⟩;obtain⟨hc2,hf2⟩:=fH hb2;have hs2:w.heap.size<w2.heap.size:=by have:=hb2.size;simp at this;omega)
  go_ret
  exact⟨rfl,(bw:Below w.heap.size w _).trans (hb2.mono zs)⟩
end Go.Proofs.YtpmafoalhnaokaaGreat.W
namespace Go.Proofs.YtpmafoalhnaokaaGreat
open Go.RowKit
theorem oQ(h:Ht)(k:Nat)(w:World)(hl:h.lies<64)(hk:k<6):CallsIn FF 0 prog 59 #[h.val,int i64 k] w fun e w'=>e=.returned (.bool (h.Jz k))∧Below w.heap.size w w':=
 CallsIn.wider (W.oQ h k w hl hk)
theorem og(h:Ht)(k:Nat)(w:World)(hl:h.lies<64)(hk:k<6):CallsIn FF 0 prog 55 #[h.val,int i64 k] w fun e w'=>e=.returned (int i64 (h.real k))∧Below w.heap.size w w':=
 CallsIn.wider (W.og h k w hl hk)
end Go.Proofs.YtpmafoalhnaokaaGreat
namespace Go.Proofs.YtpmafoalhnaokaaGreat.W
section
open Go.RowKit
theorem Yy(w:World):CallsIn SF 0 prog 120 #[] w fun e w'=>e=.returned (.agg xY)∧Below w.heap.size w w':=by
 gi_enter func120,ntmps120
 gi_wp2
 refine bodyPost_ret (v:=.agg xY) (by simp[results,results120,go_sem,xY]) rfl ⟨rfl,?_⟩
 exact zB.alloc zL _
end
end Go.Proofs.YtpmafoalhnaokaaGreat.W
namespace Go.Proofs.YtpmafoalhnaokaaGreat.W
open Go.RowKit Go.Sort
theorem wI(b:Bk)(s:Nat→Int)(h:Ht)(k:Nat)(w:World)(hA:b.At w w.heap.size)(hk:k<b.nm)(ok:Mv.ok b k)(wm:b.ng≤3)(Uj:k<6)(hl:h.lies<64)
 (hs:∀g,g<3→-100000≤s g∧s g≤100000)(hm:-1000≤h.real k∧h.real k≤1000):
 CallsIn SF 0 prog 88 #[b.val,mD s,h.val,int i64 k] w fun e w'=>e=.returned (mD (Bh b s h k))∧Below w.heap.size w w':=by
 obtain⟨dY,mO,gA,ng,gc,g,mA,nm,mc,m,cA,nc,cc,c⟩:=b
 obtain⟨hf,hmm,lies⟩:=h
 simp only at hk wm hl
 obtain⟨o1,o2,-,-,-⟩:=ok
 simp only at o1 o2
 have hnm:=hA.nm
 simp only at hnm
 unfold maxLen at hnm
 have hR:∀w,CallsIn SF 0 prog 55 #[.agg #[int i64 (hf 0),int i64 (hf 1),int i64 (hf 2),int i64 (hmm 0),int i64 (hmm 1),int i64 (hmm 2),int i64 (hmm 3),int i64 (hmm 4),int i64 (hmm 5),int i64 lies],int i64 k] w fun e w'=>e=.returned (int i64 ((⟨hf,hmm,lies⟩:Ht).real k))∧Below w.heap.size w w':=fun w=>og ⟨hf,hmm,lies⟩ k w hl Uj
 obtain⟨rk,lk⟩:∃rk,rk=(⟨hf,hmm,lies⟩:Ht).real k:=zE
 have hd:Bh ⟨dY,mO,gA,ng,gc,g,mA,nm,mc,m,cA,nc,cc,c⟩ s ⟨hf,hmm,lies⟩ k=fun(q:Nat)=>if (m k).good=(q:Int) then s q+(if (m k).kind=0∨(m k).kind=4 then rk else - rk) else s q:=by
  funext q;unfold Bh qv;rw[lk]
 rw[hd]
 rw[← lk] at hR hm
 clear hd lk
 have hS0:=hs 0 zD
 have hS1:=hs 1 zD
 have hS2:=hs 2 zD
 clear hs
 obtain⟨ad,hA',hbl,-⟩:=hA.m (show 0<nm by omega)
 simp only at hA'
 subst hA'
 simp only[Bk.val,Bk.cells,Ht.val,Ht.cells,mD]
 have hr:=hid (hA.m.row hk)
 have hB5:=hbl
 have hM:∃mk:Mv,mk=m k:=zE
 obtain⟨mk,hmk⟩:=hM
 rw[← hmk] at o1 o2⊢
 have HR:=hid (show ∀j,j<5→w.cell? ((ad.add (k * 5)).add j)=some (mk.cell j) by rw[hmk];exact hr.out.2)
 clear hr hmk hA
 obtain⟨kd,gd,dy,lo,hi⟩:=mk
 simp only at o1 o2⊢
 have hlt:(ad.add (k * 5)).block<w.heap.size:=by rw[aH];exact hbl
 obtain⟨z0,hz0⟩:∃z,z=s 0:=zE
 obtain⟨z1,hz1⟩:∃z,z=s 1:=zE
 obtain⟨z2,hz2⟩:∃z,z=s 2:=zE
 simp only[← hz0,← hz1,← hz2] at hS0 hS1 hS2⊢
 clear hz0 hz1 hz2
 have e:∀j,j<5→((((w.alloc (.cells #[int i64 dY,int i64 mO,.slice gA ng gc,.slice (some ad) nm mc,.slice cA nc cc] 73)).alloc (.cells #[int i64 z0,int i64 z1,int i64 z2] 88)).alloc (.cells #[int i64 (hf 0),int i64 (hf 1),int i64 (hf 2),int i64 (hmm 0),int i64 (hmm 1),int i64 (hmm 2),int i64 (hmm 3),int i64 (hmm 4),int i64 (hmm 5),int i64 lies] 91)).alloc (.cells #[int i64 0,int i64 0,int i64 0] 88)).cell? ((ad.add (k * 5)).add j)=some ((⟨kd,gd,dy,lo,hi⟩:Mv).cell j):=fun j hj=>((bw:Below w.heap.size w ((((w.alloc (.cells #[int i64 dY,int i64 mO,.slice gA ng gc,.slice (some ad) nm mc,.slice cA nc cc] 73)).alloc (.cells #[int i64 z0,int i64 z1,int i64 z2] 88)).alloc (.cells #[int i64 (hf 0),int i64 (hf 1),int i64 (hf 2),int i64 (hmm 0),int i64 (hmm 1),int i64 (hmm 2),int i64 (hmm 3),int i64 (hmm 4),int i64 (hmm 5),int i64 lies] 91)).alloc (.cells #[int i64 0,int i64 0,int i64 0] 88))).cell (by rw[aH,aH];exact hbl)).trans (HR.out j hj)
 have c0:((((w.alloc (.cells #[int i64 dY,int i64 mO,.slice gA ng gc,.slice (some ad) nm mc,.slice cA nc cc] 73)).alloc (.cells #[int i64 z0,int i64 z1,int i64 z2] 88)).alloc (.cells #[int i64 (hf 0),int i64 (hf 1),int i64 (hf 2),int i64 (hmm 0),int i64 (hmm 1),int i64 (hmm 2),int i64 (hmm 3),int i64 (hmm 4),int i64 (hmm 5),int i64 lies] 91)).alloc (.cells #[int i64 0,int i64 0,int i64 0] 88)).cell? (ad.add (k * 5))=some (int i64 kd):=e 0 zD
 have c1:((((w.alloc (.cells #[int i64 dY,int i64 mO,.slice gA ng gc,.slice (some ad) nm mc,.slice cA nc cc] 73)).alloc (.cells #[int i64 z0,int i64 z1,int i64 z2] 88)).alloc (.cells #[int i64 (hf 0),int i64 (hf 1),int i64 (hf 2),int i64 (hmm 0),int i64 (hmm 1),int i64 (hmm 2),int i64 (hmm 3),int i64 (hmm 4),int i64 (hmm 5),int i64 lies] 91)).alloc (.cells #[int i64 0,int i64 0,int i64 0] 88)).cell? ⟨(ad.add (k * 5)).block,(ad.add (k * 5)).off+1,none⟩=some (int i64 gd):=e 1 zD
 have c2:((((w.alloc (.cells #[int i64 dY,int i64 mO,.slice gA ng gc,.slice (some ad) nm mc,.slice cA nc cc] 73)).alloc (.cells #[int i64 z0,int i64 z1,int i64 z2] 88)).alloc (.cells #[int i64 (hf 0),int i64 (hf 1),int i64 (hf 2),int i64 (hmm 0),int i64 (hmm 1),int i64 (hmm 2),int i64 (hmm 3),int i64 (hmm 4),int i64 (hmm 5),int i64 lies] 91)).alloc (.cells #[int i64 0,int i64 0,int i64 0] 88)).cell? ⟨(ad.add (k * 5)).block,(ad.add (k * 5)).off+2,none⟩=some (int i64 dy):=e 2 zD
 have c3:((((w.alloc (.cells #[int i64 dY,int i64 mO,.slice gA ng gc,.slice (some ad) nm mc,.slice cA nc cc] 73)).alloc (.cells #[int i64 z0,int i64 z1,int i64 z2] 88)).alloc (.cells #[int i64 (hf 0),int i64 (hf 1),int i64 (hf 2),int i64 (hmm 0),int i64 (hmm 1),int i64 (hmm 2),int i64 (hmm 3),int i64 (hmm 4),int i64 (hmm 5),int i64 lies] 91)).alloc (.cells #[int i64 0,int i64 0,int i64 0] 88)).cell? ⟨(ad.add (k * 5)).block,(ad.add (k * 5)).off+3,none⟩=some (int i64 lo):=e 3 zD
 have c4:((((w.alloc (.cells #[int i64 dY,int i64 mO,.slice gA ng gc,.slice (some ad) nm mc,.slice cA nc cc] 73)).alloc (.cells #[int i64 z0,int i64 z1,int i64 z2] 88)).alloc (.cells #[int i64 (hf 0),int i64 (hf 1),int i64 (hf 2),int i64 (hmm 0),int i64 (hmm 1),int i64 (hmm 2),int i64 (hmm 3),int i64 (hmm 4),int i64 (hmm 5),int i64 lies] 91)).alloc (.cells #[int i64 0,int i64 0,int i64 0] 88)).cell? ⟨(ad.add (k * 5)).block,(ad.add (k * 5)).off+4,none⟩=some (int i64 hi):=e 4 zD
 clear e
 gi_enter func88,ntmps88
 gi_wp2
 obtain⟨wq,hwq⟩:∃wq,wq=((((w.alloc (.cells #[int i64 dY,int i64 mO,.slice gA ng gc,.slice (some ad) nm mc,.slice cA nc cc] 73)).alloc (.cells #[int i64 z0,int i64 z1,int i64 z2] 88)).alloc (.cells #[int i64 (hf 0),int i64 (hf 1),int i64 (hf 2),int i64 (hmm 0),int i64 (hmm 1),int i64 (hmm 2),int i64 (hmm 3),int i64 (hmm 4),int i64 (hmm 5),int i64 lies] 91)).alloc (.cells #[int i64 0,int i64 0,int i64 0] 88)).alloc (.cells #[int i64 kd,int i64 gd,int i64 dy,int i64 lo,int i64 hi] 39):=zE
 have hq1:Whole wq (w.heap.size+1) 88 #[int i64 z0,int i64 z1,int i64 z2]:=by
  have e:=((((Whole.new (w.alloc (.cells #[int i64 dY,int i64 mO,.slice gA ng gc,.slice (some ad) nm mc,.slice cA nc cc] 73)) 88 #[int i64 z0,int i64 z1,int i64 z2]).alloc (.cells #[int i64 (hf 0),int i64 (hf 1),int i64 (hf 2),int i64 (hmm 0),int i64 (hmm 1),int i64 (hmm 2),int i64 (hmm 3),int i64 (hmm 4),int i64 (hmm 5),int i64 lies] 91)).alloc (.cells #[int i64 0,int i64 0,int i64 0] 88)).alloc (.cells #[int i64 kd,int i64 gd,int i64 dy,int i64 lo,int i64 hi] 39))
  rw[hwq];simpa using e
 have hq2:Whole wq (w.heap.size+2) 91 #[int i64 (hf 0),int i64 (hf 1),int i64 (hf 2),int i64 (hmm 0),int i64 (hmm 1),int i64 (hmm 2),int i64 (hmm 3),int i64 (hmm 4),int i64 (hmm 5),int i64 lies]:=by
  have e:=((Whole.new ((w.alloc (.cells #[int i64 dY,int i64 mO,.slice gA ng gc,.slice (some ad) nm mc,.slice cA nc cc] 73)).alloc (.cells #[int i64 z0,int i64 z1,int i64 z2] 88)) 91 #[int i64 (hf 0),int i64 (hf 1),int i64 (hf 2),int i64 (hmm 0),int i64 (hmm 1),int i64 (hmm 2),int i64 (hmm 3),int i64 (hmm 4),int i64 (hmm 5),int i64 lies]).alloc (.cells #[int i64 0,int i64 0,int i64 0] 88)).alloc (.cells #[int i64 kd,int i64 gd,int i64 dy,int i64 lo,int i64 hi] 39)
  rw[hwq];simpa using e
 have hq3:Whole wq (w.heap.size+3) 88 #[int i64 0,int i64 0,int i64 0]:=by
  have e:=(Whole.new (((w.alloc (.cells #[int i64 dY,int i64 mO,.slice gA ng gc,.slice (some ad) nm mc,.slice cA nc cc] 73)).alloc (.cells #[int i64 z0,int i64 z1,int i64 z2] 88)).alloc (.cells #[int i64 (hf 0),int i64 (hf 1),int i64 (hf 2),int i64 (hmm 0),int i64 (hmm 1),int i64 (hmm 2),int i64 (hmm 3),int i64 (hmm 4),int i64 (hmm 5),int i64 lies] 91)) 88 #[int i64 0,int i64 0,int i64 0]).alloc (.cells #[int i64 kd,int i64 gd,int i64 dy,int i64 lo,int i64 hi] 39)
  rw[hwq];simpa using e
 have hq4:Whole wq (w.heap.size+4) 39 #[int i64 kd,int i64 gd,int i64 dy,int i64 lo,int i64 hi]:=by
  have e:=Whole.new ((((w.alloc (.cells #[int i64 dY,int i64 mO,.slice gA ng gc,.slice (some ad) nm mc,.slice cA nc cc] 73)).alloc (.cells #[int i64 z0,int i64 z1,int i64 z2] 88)).alloc (.cells #[int i64 (hf 0),int i64 (hf 1),int i64 (hf 2),int i64 (hmm 0),int i64 (hmm 1),int i64 (hmm 2),int i64 (hmm 3),int i64 (hmm 4),int i64 (hmm 5),int i64 lies] 91)).alloc (.cells #[int i64 0,int i64 0,int i64 0] 88)) 39 #[int i64 kd,int i64 gd,int i64 dy,int i64 lo,int i64 hi]
  rw[hwq];simpa using e
 have hbq:Below w.heap.size w wq:=by rw[hwq];exact bw
 have TE:wq.heap.size=w.heap.size+5:=by rw[hwq];simp
 rw[← hwq]
 clear c0 c1 c2 c3 c4 hwq HR hlt hbl hB5
 have g2:Whole wq (w.heap.size+1+1) _ _:=hq2
 have g3:Whole wq (w.heap.size+1+1+1) _ _:=hq3
 have g4:Whole wq (w.heap.size+1+1+1+1) _ _:=hq4
 clear hq2 hq3 hq4
 have t1:w.heap.size+1<wq.heap.size:=zo
 have t2:w.heap.size+1+1<wq.heap.size:=zo
 have t3:w.heap.size+1+1+1<wq.heap.size:=zo
 have t4:w.heap.size+1+1+1+1<wq.heap.size:=zo
 have a0:=hq1.cell 0
 have a1:=hq1.cell 1
 have a2:=hq1.cell 2
 have af:=hq1.thaw
 have d0:=g4.cell 0
 have d1:=g4.cell 1
 have h0:=g2.cell 0
 have h1:=g2.cell 1
 have h2:=g2.cell 2
 have h3:=g2.cell 3
 have h4:=g2.cell 4
 have h5:=g2.cell 5
 have h6:=g2.cell 6
 have h7:=g2.cell 7
 have h8:=g2.cell 8
 have h9:=g2.cell 9
 obtain⟨xk,fk,kx,Ym⟩:=UC o1
 have hix:=fun w=>(Ym w).1
 have hif:=fun w=>(Ym w).2
 clear Ym
 have pT:=hid hbq
 have b7:∀a b:Int,-100000≤a∧a≤100000→-1000≤b∧b≤1000→wrap64 (a+b)=a+b∧wrap64 (a - b)=a - b:=fun a b h1 h2=>⟨IntWalk.wrap64_in _ zo,IntWalk.wrap64_in _ zo⟩
 have ws0:=hid (b7 _ _ hS0 hm)
 have ws1:=hid (b7 _ _ hS1 hm)
 have ws2:=hid (b7 _ _ hS2 hm)
 clear hbq b7 hS0 hS1 hS2 hm
 have T7:=cell_regrown a0
 have T8:=cell_regrown a1
 have T':=cell_regrown a2
 have Up:=cell_regrown d0
 have UI:=cell_regrown d1
 have UP:=cell_regrown h0
 have US:=cell_regrown h1
 have UT:=cell_regrown h2
 have U':=cell_regrown h3
 have VC:=cell_regrown h4
 have VM:=cell_regrown h5
 have VS:=cell_regrown h6
 have VV:=cell_regrown h7
 have V':=cell_regrown h8
 have Wb:=cell_regrown h9
 have cK:∀d os,CallsIn SF 0 prog 120 #[] (grow (redrawn wq d) os) fun e w''=>e=.returned (.agg xY)∧∃p:Regrown,w''=grow (redrawn wq p.d) p.os:=fun d os=>CallsIn.regrown_of (Yy _)
 have cR:∀d os,CallsIn SF 0 prog 55 #[.agg #[int i64 (hf 0),int i64 (hf 1),int i64 (hf 2),int i64 (hmm 0),int i64 (hmm 1),int i64 (hmm 2),int i64 (hmm 3),int i64 (hmm 4),int i64 (hmm 5),int i64 lies],int i64 k] (grow (redrawn wq d) os) fun e w''=>e=.returned (int i64 rk)∧∃p:Regrown,w''=grow (redrawn wq p.d) p.os:=fun d os=>CallsIn.regrown_of (hR _)
 have cM:∀x y d os,CallsIn SF 0 prog 139 #[int i64 x,int i64 y] (grow (redrawn wq d) os) fun e w''=>e=.returned (int i64 (wrap64 (x+y)))∧∃p:Regrown,w''=grow (redrawn wq p.d) p.os:=fun x y d os=>CallsIn.regrown_of ((mn x y _).mono fun e w' h=>⟨h.1,h.2 ▸ zB⟩)
 have cL:∀x y d os,CallsIn SF 0 prog 140 #[int i64 x,int i64 y] (grow (redrawn wq d) os) fun e w''=>e=.returned (int i64 (wrap64 (x - y)))∧∃p:Regrown,w''=grow (redrawn wq p.d) p.os:=fun x y d os=>CallsIn.regrown_of ((lR x y _).mono fun e w' h=>⟨h.1,h.2 ▸ zB⟩)
 have Q1:=hid hq1
 have Q3:=hid g3
 clear a0 a1 a2 af d0 d1 h0 h1 h2 h3 h4 h5 h6 h7 h8 h9 t1 t2 t3 t4 hR hq1 g2 g3 g4
 have fin:∀ (zg u:Int) (f:Nat),(f=139∧(kd=0∨kd=4)∧u=zg+rk∨f=140∧¬ (kd=0∨kd=4)∧u=zg - rk)→wrap64 (zg+rk)=zg+rk∧wrap64 (zg - rk)=zg - rk→
  (∀d os,CallsIn SF 0 prog f #[int i64 zg,int i64 rk] (grow (redrawn wq d) os) fun e w''=>e=.returned (int i64 u)∧∃p:Regrown,w''=grow (redrawn wq p.d) p.os):=fun zg u f h hw d os=>by
  rcases h with⟨rfl,-,rfl⟩|⟨rfl,-,rfl⟩
  ·have:=cM zg rk d os;rwa[hw.1] at this
  ·have:=cL zg rk d os;rwa[hw.2] at this
 clear cM cL
 have hU:∀zg:Int,∃u,u=zg+(if kd=0∨kd=4 then rk else - rk)∧(fk=139∧(kd=0∨kd=4)∧u=zg+rk∨fk=140∧¬ (kd=0∨kd=4)∧u=zg - rk):=fun zg=>by
  rcases kx with⟨h1,h2⟩|⟨h1,h2⟩
  ·exact⟨_,rfl,.inl ⟨h1,h2,by rw[if_pos h2]⟩⟩
  ·exact⟨_,rfl,.inr ⟨h1,h2,by rw[if_neg h2];omega⟩⟩
 obtain⟨u0,hu0,hv0⟩:=hU z0
 obtain⟨u1,hu1,hv1⟩:=hU z1
 obtain⟨u2,hu2,hv2⟩:=hU z2
 have qn:=fin z0 u0 fk hv0 ws0.out
 have qq:=fin z1 u1 fk hv1 ws1.out
 have qu:=fin z2 u2 fk hv2 ws2.out
 have HU0:=hid hu0
 have HU1:=hid hu1
 have HU2:=hid hu2
 clear hU fin hv0 hv1 hv2 hu0 hu1 hu2 ws0 ws1 ws2
 have SD:fk=139∨fk=140:=kx.imp (·.1) (·.1)
 clear kx
 rcases SD with rfl|rfl
 all_goals
  rcases(show gd=0∨gd=1∨gd=2 by omega) with rfl|rfl|rfl
  all_goals clear o1 o2
  ·refine aJ 16 rfl zk zk ?_
   simp only[List.take_succ_cons,List.take_zero,List.drop_succ_cons,List.drop_zero]
   repeat (quiet_step_in (first|exact cK _ _|exact cR _ _|exact qn _ _|exact qq _ _|exact qu _ _))
   refine wpQuietIn_nil ?_
   rintro w' ⟨⟨dq,osq⟩,rfl⟩
   have bg:=below_regrown wq dq osq
   clear UP US UT U' VC VM VS VV V' Wb T7 T8 T' Up UI cK cR qn qq qu hix hif
   generalize grow (redrawn wq dq) osq=w9 at bg⊢
   have W1:=Q1.out.below bg Q1.out.lt
   have W3:=Q3.out.below bg Q3.out.lt
   have x0:=W1.cell 0
   have x1:=W1.cell 1
   have x2:=W1.cell 2
   have xf:=W1.thaw
   have yc:=W3.cell
   have yf:=W3.thaw
   have l1:=W1.lt
   have l3:=W3.lt
   have V3:=hid W3
   have G8:=hid (pT.out.trans (bg.mono zo))
   clear bg Q1 Q3 pT W1 W3 TE hnm hl wm Uj hk
   rename_i Kr Qr hKr
   refine wpListIn_plain rfl (fun K hK=>?_)
   go_simp
   refine hK _ _ (wpListIn_nil (hKr _ _ ?_))
   clear hKr Kr hK K
   apply wpIn_seq_k
   intro K hK
   apply wpIn_region_lit
   refine wpListIn_plain rfl (fun K2 hK2=>?_)
   go_simp
   refine hK2 _ _ ?_
   clear hK2 K2
   refine wpListIn_plain rfl (fun K2 hK2=>?_)
   go_simp
   refine hK2 _ _ (wpListIn_nil (hK _ _ ?_))
   clear hK2 K2 hK K
   apply wpIn_ret
   have U0:=V3.out.other (p:=⟨w.heap.size+1,0,none⟩) zm (int i64 u0)
   have U3:=((U0.set 0 (int i64 u0)).set 1 (int i64 z1)).set 2 (int i64 z2)
   have q0:=U3.cell 0
   have q1:=U3.cell 1
   have q2:=U3.cell 2
   clear x0 x1 x2 xf yc yf l1 l3
   refine bodyPost_ret (v:=.agg #[int i64 u0,int i64 z1,int i64 z2]) (by simp[results,results88,go_sem,q0,q1,q2]) rfl ⟨?_,?_⟩
   ·rw[HU0.out];simp
   ·exact(((G8.out.setCell (p:=⟨w.heap.size+1,0,none⟩) (Nat.le_succ _) _).setCell (p:=⟨w.heap.size+1+1+1,0,none⟩) (by show w.heap.size≤w.heap.size+1+1+1;omega) _).setCell (p:=⟨w.heap.size+1+1+1,1,none⟩) (by show w.heap.size≤w.heap.size+1+1+1;omega) _).setCell (p:=⟨w.heap.size+1+1+1,2,none⟩) (by show w.heap.size≤w.heap.size+1+1+1;omega) _
  ·refine aJ 16 rfl zk zk ?_
   simp only[List.take_succ_cons,List.take_zero,List.drop_succ_cons,List.drop_zero]
   repeat (quiet_step_in (first|exact cK _ _|exact cR _ _|exact qn _ _|exact qq _ _|exact qu _ _))
   refine wpQuietIn_nil ?_
   rintro w' ⟨⟨dq,osq⟩,rfl⟩
   have bg:=below_regrown wq dq osq
   clear UP US UT U' VC VM VS VV V' Wb T7 T8 T' Up UI cK cR qn qq qu hix hif
   generalize grow (redrawn wq dq) osq=w9 at bg⊢
   have W1:=Q1.out.below bg Q1.out.lt
   have W3:=Q3.out.below bg Q3.out.lt
   have x0:=W1.cell 0
   have x1:=W1.cell 1
   have x2:=W1.cell 2
   have xf:=W1.thaw
   have yc:=W3.cell
   have yf:=W3.thaw
   have l1:=W1.lt
   have l3:=W3.lt
   have V3:=hid W3
   have G8:=hid (pT.out.trans (bg.mono zo))
   clear bg Q1 Q3 pT W1 W3 TE hnm hl wm Uj hk
   rename_i Kr Qr hKr
   refine wpListIn_plain rfl (fun K hK=>?_)
   go_simp
   refine hK _ _ (wpListIn_nil (hKr _ _ ?_))
   clear hKr Kr hK K
   apply wpIn_seq_k
   intro K hK
   apply wpIn_region_lit
   refine wpListIn_plain rfl (fun K2 hK2=>?_)
   go_simp
   refine hK2 _ _ ?_
   clear hK2 K2
   refine wpListIn_plain rfl (fun K2 hK2=>?_)
   go_simp
   refine hK2 _ _ (wpListIn_nil (hK _ _ ?_))
   clear hK2 K2 hK K
   apply wpIn_ret
   have U0:=V3.out.other (p:=⟨w.heap.size+1,1,none⟩) zm (int i64 u1)
   have U3:=((U0.set 0 (int i64 z0)).set 1 (int i64 u1)).set 2 (int i64 z2)
   have q0:=U3.cell 0
   have q1:=U3.cell 1
   have q2:=U3.cell 2
   clear x0 x1 x2 xf yc yf l1 l3
   refine bodyPost_ret (v:=.agg #[int i64 z0,int i64 u1,int i64 z2]) (by simp[results,results88,go_sem,q0,q1,q2]) rfl ⟨?_,?_⟩
   ·rw[HU1.out];simp
   ·exact(((G8.out.setCell (p:=⟨w.heap.size+1,1,none⟩) (Nat.le_succ _) _).setCell (p:=⟨w.heap.size+1+1+1,0,none⟩) (by show w.heap.size≤w.heap.size+1+1+1;omega) _).setCell (p:=⟨w.heap.size+1+1+1,1,none⟩) (by show w.heap.size≤w.heap.size+1+1+1;omega) _).setCell (p:=⟨w.heap.size+1+1+1,2,none⟩) (by show w.heap.size≤w.heap.size+1+1+1;omega) _
  ·refine aJ 16 rfl zk zk ?_
   simp only[List.take_succ_cons,List.take_zero,List.drop_succ_cons,List.drop_zero]
   repeat (quiet_step_in (first|exact cK _ _|exact cR _ _|exact qn _ _|exact qq _ _|exact qu _ _))
   refine wpQuietIn_nil ?_
   rintro w' ⟨⟨dq,osq⟩,rfl⟩
   have bg:=below_regrown wq dq osq
   clear UP US UT U' VC VM VS VV V' Wb T7 T8 T' Up UI cK cR qn qq qu hix hif
   generalize grow (redrawn wq dq) osq=w9 at bg⊢
   have W1:=Q1.out.below bg Q1.out.lt
   have W3:=Q3.out.below bg Q3.out.lt
   have x0:=W1.cell 0
   have x1:=W1.cell 1
   have x2:=W1.cell 2
   have xf:=W1.thaw
   have yc:=W3.cell
   have yf:=W3.thaw
   have l1:=W1.lt
   have l3:=W3.lt
   have V3:=hid W3
   have G8:=hid (pT.out.trans (bg.mono zo))
   clear bg Q1 Q3 pT W1 W3 TE hnm hl wm Uj hk
   rename_i Kr Qr hKr
   refine wpListIn_plain rfl (fun K hK=>?_)
   go_simp
   refine hK _ _ (wpListIn_nil (hKr _ _ ?_))
   clear hKr Kr hK K
   apply wpIn_seq_k
   intro K hK
   apply wpIn_region_lit
   refine wpListIn_plain rfl (fun K2 hK2=>?_)
   go_simp
   refine hK2 _ _ ?_
   clear hK2 K2
   refine wpListIn_plain rfl (fun K2 hK2=>?_)
   go_simp
   refine hK2 _ _ (wpListIn_nil (hK _ _ ?_))
   clear hK2 K2 hK K
   apply wpIn_ret
   have U0:=V3.out.other (p:=⟨w.heap.size+1,2,none⟩) zm (int i64 u2)
   have U3:=((U0.set 0 (int i64 z0)).set 1 (int i64 z1)).set 2 (int i64 u2)
   have q0:=U3.cell 0
   have q1:=U3.cell 1
   have q2:=U3.cell 2
   clear x0 x1 x2 xf yc yf l1 l3
   refine bodyPost_ret (v:=.agg #[int i64 z0,int i64 z1,int i64 u2]) (by simp[results,results88,go_sem,q0,q1,q2]) rfl ⟨?_,?_⟩
   ·rw[HU2.out];simp
   ·exact(((G8.out.setCell (p:=⟨w.heap.size+1,2,none⟩) (Nat.le_succ _) _).setCell (p:=⟨w.heap.size+1+1+1,0,none⟩) (by show w.heap.size≤w.heap.size+1+1+1;omega) _).setCell (p:=⟨w.heap.size+1+1+1,1,none⟩) (by show w.heap.size≤w.heap.size+1+1+1;omega) _).setCell (p:=⟨w.heap.size+1+1+1,2,none⟩) (by show w.heap.size≤w.heap.size+1+1+1;omega) _
end Go.Proofs.YtpmafoalhnaokaaGreat.W
namespace Go.Proofs.YtpmafoalhnaokaaGreat
open Go.RowKit
theorem wI(b:Bk)(s:Nat→Int)(h:Ht)(k:Nat)(w:World)(hA:b.At w w.heap.size)(hk:k<b.nm)(ok:Mv.ok b k)(wm:b.ng≤3)(Uj:k<6)(hl:h.lies<64)
 (hs:∀g,g<3→-100000≤s g∧s g≤100000)(hm:-1000≤h.real k∧h.real k≤1000):
 CallsIn FF 0 prog 88 #[b.val,mD s,h.val,int i64 k] w fun e w'=>e=.returned (mD (Bh b s h k))∧Below w.heap.size w w':=
 CallsIn.wider (W.wI b s h k w hA hk ok wm Uj hl hs hm)
end Go.Proofs.YtpmafoalhnaokaaGreat
namespace Go.Proofs.YtpmafoalhnaokaaGreat
section
open Go.RowKit
section
variable{w w':World}{b B n:Nat}{t:TypeId}{cs:Array Value}{x y z x' y' z':Value}
theorem Whole.bQ(h:Whole w b t cs)(hb:b≠B):Whole (((w.setCell ⟨B,0,none⟩ x).setCell ⟨B,1,none⟩ y).setCell ⟨B,2,none⟩ z) b t cs:=
 ((h.other (p:=⟨B,0,none⟩) hb x).other (p:=⟨B,1,none⟩) hb y).other (p:=⟨B,2,none⟩) hb z
theorem Whole.iP(h:Whole w B t #[x',y',z']):Whole (((w.setCell ⟨B,0,none⟩ x).setCell ⟨B,1,none⟩ y).setCell ⟨B,2,none⟩ z) B t #[x,y,z]:=
 ((h.set 0 x).set 1 y).set 2 z
theorem aC(h:Below n w w')(hB:n≤B):Below n w (((w'.setCell ⟨B,0,none⟩ x).setCell ⟨B,1,none⟩ y).setCell ⟨B,2,none⟩ z):=
 ((h.setCell (p:=⟨B,0,none⟩) hB x).setCell (p:=⟨B,1,none⟩) hB y).setCell (p:=⟨B,2,none⟩) hB z
end
structure pR(h:Ht):Prop where
 f:∀i,i<3→0≤h.f i∧h.f i≤99
 m:∀i,i<6→0≤h.m i∧h.m i≤99
 lies:h.lies<64
theorem pR.real{h:Ht}(ok:pR h){k:Nat}(hk:k<6):0≤h.real k∧h.real k≤99:=by
 unfold Ht.real
 have:=ok.m k hk
 split <;> omega
def stk(b:Bk)(h:Ht)(d:Int):Nat→Nat→Int
 | 0=>h.f
 | Nat.succ k=>if (b.m k).day≤d then Bh b (stk b h d k) h k else stk b h d k
theorem L6{b:Bk}{h:Ht}(ok:pR h)(d:Int):∀k:Nat,k≤6→∀g:Nat,g<3→-99 * (k:Int)≤stk b h d k g∧stk b h d k g≤99 * ((k:Int)+1)
 | 0,_,g,hg=>by have:=ok.f g hg;simp only[stk];omega
 | k+1,hk,g,hg=>by
   have ih:=L6 (b:=b) ok d k zo g hg
   have hr:=ok.real (k:=k) zo
   simp only[stk]
   split
   ·unfold Bh qv
    split <;> (try split) <;> (push_cast;omega)
   ·push_cast;omega
theorem gJ(b:Bk)(h:Ht)(d:Int)(w:World)(hA:b.At w w.heap.size)(ok:kH b)(wm:b.ng≤3)(hok:pR h):
 CallsIn FF 0 prog 47 #[b.val,h.val,int i64 d] w fun e w'=>e=.returned (mD (stk b h d b.nm))∧Below w.heap.size w w':=by
 have P0:∀ (s:Nat→Int) (k:Nat) (w:World),b.At w w.heap.size→k<b.nm→(∀g,g<3→-100000≤s g∧s g≤100000)→CallsIn FF 0 prog 88 #[b.val,mD s,h.val,int i64 k] w fun e w'=>e=.returned (mD (Bh b s h k))∧Below w.heap.size w w':=fun s k w hA hk hs=>
  wI b s h k w hA hk (ok.2 k hk) wm (Nat.lt_of_lt_of_le hk ok.1) hok.lies hs (by have:=hok.real (k:=k) (Nat.lt_of_lt_of_le hk ok.1);omega)
 have hst:Hid (∀k:Nat,k≤b.nm→∀g:Nat,g<3→-100000≤stk b h d k g∧stk b h d k g≤100000):=hid fun k hk g hg=>by
  have:=L6 (b:=b) hok d k (Nat.le_trans hk ok.1) g hg
  have:=ok.1
  omega
 have Uk:=ok.1
 obtain⟨dY,mO,gA,ng,gc,g,mA,nm,mc,m,cA,nc,cc,c⟩:=b
 obtain⟨hf,hmm,lies⟩:=h
 simp only[Bk.val,Bk.cells,Ht.val,Ht.cells,mD] at P0⊢
 simp only at wm Uk
 obtain⟨S,hS⟩:∃S,S=stk (⟨dY,mO,gA,ng,gc,g,mA,nm,mc,m,cA,nc,cc,c⟩:Bk) ⟨hf,hmm,lies⟩ d:=zE
 have hS0:S 0=hf:=by rw[hS];rfl
 have hSs:∀k,S (k+1)=if (m k).day≤d then Bh (⟨dY,mO,gA,ng,gc,g,mA,nm,mc,m,cA,nc,cc,c⟩:Bk) (S k) ⟨hf,hmm,lies⟩ k else S k:=fun k=>by rw[hS];rfl
 rw[← hS] at hst⊢
 clear hS ok hok
 have HA:=hid hA
 have J':=hid P0
 have HSs:=hid hSs
 clear hA P0 hSs
 obtain⟨w4,hw4⟩:∃w4,w4=(((w.alloc (.cells #[int i64 dY,int i64 mO,.slice gA ng gc,.slice mA nm mc,.slice cA nc cc] 73)).alloc (.cells #[int i64 (hf 0),int i64 (hf 1),int i64 (hf 2),int i64 (hmm 0),int i64 (hmm 1),int i64 (hmm 2),int i64 (hmm 3),int i64 (hmm 4),int i64 (hmm 5),int i64 lies] 91)).alloc (.cells #[int i64 0,int i64 0,int i64 0] 88)).alloc (.cells #[int i64 (hf 0),int i64 (hf 1),int i64 (hf 2)] 88):=zE
 have W0:Hid (Whole w4 w.heap.size 73 #[int i64 dY,int i64 mO,.slice gA ng gc,.slice mA nm mc,.slice cA nc cc]):=hid (by rw[hw4];exact(((Whole.new w _ _).alloc _).alloc _).alloc _)
 have W1:Hid (Whole w4 (w.heap.size+1) 91 #[int i64 (hf 0),int i64 (hf 1),int i64 (hf 2),int i64 (hmm 0),int i64 (hmm 1),int i64 (hmm 2),int i64 (hmm 3),int i64 (hmm 4),int i64 (hmm 5),int i64 lies]):=hid (by
  have:=((Whole.new (w.alloc (.cells #[int i64 dY,int i64 mO,.slice gA ng gc,.slice mA nm mc,.slice cA nc cc] 73)) 91 #[int i64 (hf 0),int i64 (hf 1),int i64 (hf 2),int i64 (hmm 0),int i64 (hmm 1),int i64 (hmm 2),int i64 (hmm 3),int i64 (hmm 4),int i64 (hmm 5),int i64 lies]).alloc (.cells #[int i64 0,int i64 0,int i64 0] 88)).alloc (.cells #[int i64 (hf 0),int i64 (hf 1),int i64 (hf 2)] 88)
  rw[World.size_alloc] at this;rw[hw4];exact this)
 have W2:Hid (Whole w4 (w.heap.size+1+1) 88 #[int i64 0,int i64 0,int i64 0]):=hid (by
  have:=(Whole.new ((w.alloc (.cells #[int i64 dY,int i64 mO,.slice gA ng gc,.slice mA nm mc,.slice cA nc cc] 73)).alloc (.cells #[int i64 (hf 0),int i64 (hf 1),int i64 (hf 2),int i64 (hmm 0),int i64 (hmm 1),int i64 (hmm 2),int i64 (hmm 3),int i64 (hmm 4),int i64 (hmm 5),int i64 lies] 91)) 88 #[int i64 0,int i64 0,int i64 0]).alloc (.cells #[int i64 (hf 0),int i64 (hf 1),int i64 (hf 2)] 88)
  rw[World.size_alloc,World.size_alloc] at this;rw[hw4];exact this)
 have W3:Hid (Whole w4 (w.heap.size+1+1+1) 88 #[int i64 (S 0 0),int i64 (S 0 1),int i64 (S 0 2)]):=hid (by
  have:=Whole.new (((w.alloc (.cells #[int i64 dY,int i64 mO,.slice gA ng gc,.slice mA nm mc,.slice cA nc cc] 73)).alloc (.cells #[int i64 (hf 0),int i64 (hf 1),int i64 (hf 2),int i64 (hmm 0),int i64 (hmm 1),int i64 (hmm 2),int i64 (hmm 3),int i64 (hmm 4),int i64 (hmm 5),int i64 lies] 91)).alloc (.cells #[int i64 0,int i64 0,int i64 0] 88)) 88 #[int i64 (hf 0),int i64 (hf 1),int i64 (hf 2)]
  rw[World.size_alloc,World.size_alloc,World.size_alloc] at this;rw[hw4,hS0];exact this)
 have WB:Hid (Below w.heap.size w w4):=hid (by rw[hw4];exact bw)
 have tt:=hid hw4
 clear hw4 hS0
 gi_enter func47,ntmps47
 gi_wp2
 rw[← tt.out]
 clear tt
 gi_loopw [16] (fun i wr=>∃k:Nat,k≤nm∧i=int i64 k∧Hid (Whole wr w.heap.size 73 #[int i64 dY,int i64 mO,.slice gA ng gc,.slice mA nm mc,.slice cA nc cc]∧Whole wr (w.heap.size+1) 91 #[int i64 (hf 0),int i64 (hf 1),int i64 (hf 2),int i64 (hmm 0),int i64 (hmm 1),int i64 (hmm 2),int i64 (hmm 3),int i64 (hmm 4),int i64 (hmm 5),int i64 lies]∧Whole wr (w.heap.size+1+1) 88 #[int i64 0,int i64 0,int i64 0]∧Whole wr (w.heap.size+1+1+1) 88 #[int i64 (S k 0),int i64 (S k 1),int i64 (S k 2)]∧Below w.heap.size w wr)) (fun i _=>nm - (intOf i).toNat)
 case atStart=>exact⟨0,Nat.zero_le _,rfl,hid ⟨W0.out,W1.out,W2.out,W3.out,WB.out⟩⟩
 case round=>
  obtain⟨k,hk,rfl,hR⟩:=hrel
  clear W0 W1 W2 W3 WB
  by_cases hlt:k<nm
  ·obtain⟨wo,rfl⟩:∃wo:World,wo=wr:=zE
   have hs3:=hR.out.2.2.2.1.lt
   have hsz:w.heap.size≤wo.heap.size:=zo
   obtain⟨ad,hA',hbl,-⟩:=HA.out.m (show 0<nm by omega)
   simp only at hA'
   subst hA'
   have hr:=(HA.out.m.below hR.out.2.2.2.2).row hlt
   have c0:wo.cell? (ad.add (k * 5))=some (int i64 (m k).kind):=hr.2 0 zD
   have c1:wo.cell? ⟨(ad.add (k * 5)).block,(ad.add (k * 5)).off+1,none⟩=some (int i64 (m k).good):=hr.2 1 zD
   have c2:wo.cell? ⟨(ad.add (k * 5)).block,(ad.add (k * 5)).off+2,none⟩=some (int i64 (m k).day):=hr.2 2 zD
   have c3:wo.cell? ⟨(ad.add (k * 5)).block,(ad.add (k * 5)).off+3,none⟩=some (int i64 (m k).lo):=hr.2 3 zD
   have c4:wo.cell? ⟨(ad.add (k * 5)).block,(ad.add (k * 5)).off+4,none⟩=some (int i64 (m k).hi):=hr.2 4 zD
   clear hr
   have q0:=hR.out.1.cell
   have q1:=hR.out.2.1.cell
   have q3:=hR.out.2.2.2.1.cell
   have t0:w.heap.size<wo.heap.size:=zo
   have t1:w.heap.size+1<wo.heap.size:=zo
   have t2:w.heap.size+1+1<wo.heap.size:=zo
   by_cases KP:(m k).day≤d
   ·have hdd:decide ((m k).day≤d)=true:=decide_eq_true KP
    have Na:=HSs.out k
    rw[if_pos KP] at Na
    have fT:=hid Na
    clear Na
    gi_wp2_with (gi_at_call 88;refine(J'.out (S k) k _ ((HA.out.below (hR.out.2.2.2.2.trans (bw))).more zm) hlt (hst.out k zo)).mono ?_;rintro e w2 ⟨rfl,hb2⟩;have HB2:Hid (Below wo.heap.size wo w2):=hid ((bw:Below wo.heap.size wo _).trans (hb2.mono zs));clear hb2;have y3:=hR.out.2.2.2.1.below HB2.out hs3;have yc:=y3.cell;have yf:=y3.thaw)
    go_roundw
    case rel=>
     refine⟨k+1,zo,by go_num,hid ⟨(hR.out.1.below HB2.out t0).bQ zo,(hR.out.2.1.below HB2.out t1).bQ zo,(hR.out.2.2.1.below HB2.out t2).bQ zo,?_,aC (hR.out.2.2.2.2.trans (HB2.out.mono hsz)) zo⟩⟩
     rw[fT.out]
     exact y3.iP
    case measure=>simp[intOf];omega
   ·have hdd:decide ((m k).day≤d)=false:=decide_eq_false KP
    have Na:=HSs.out k
    rw[if_neg KP] at Na
    have fT:=hid Na
    clear Na
    gi_wp2
    go_roundw
    case rel=>exact⟨k+1,zo,by go_num,hid ⟨hR.out.1.alloc _,hR.out.2.1.alloc _,hR.out.2.2.1.alloc _,by rw[fT.out];exact hR.out.2.2.2.1.alloc _,hR.out.2.2.2.2.alloc hsz _⟩⟩
    case measure=>simp[intOf];omega
  ·obtain rfl:k=nm:=zo
   have q3:=hR.out.2.2.2.1.cell
   have q2:=hR.out.2.2.1.cell
   have Xs:=hR.out.2.2.1.thaw
   gi_wp2
   have U:=(hR.out.2.2.1.iP (x:=int i64 (S k 0)) (y:=int i64 (S k 1)) (z:=int i64 (S k 2)))
   have u0:=U.cell 0
   have u1:=U.cell 1
   have u2:=U.cell 2
   clear q3 q2 Xs
   refine bodyPost_ret (v:=.agg #[int i64 (S k 0),int i64 (S k 1),int i64 (S k 2)]) (by simp[results,results47,go_sem,u0,u1,u2]) rfl ⟨rfl,aC hR.out.2.2.2.2 zo⟩
def EN(b:Bk)(h:Ht):Nat→Nat→Int
 | 0=>h.f
 | Nat.succ k=>fun g=>min (EN b h k g) (stk b h k b.nm g)
theorem AI(b:Bk)(h:Ht)(w:World)(hA:b.At w w.heap.size)(ok:kH b)(hd:1≤b.dY∧b.dY≤99)(wm:b.ng≤3)(hok:pR h):
 CallsIn FF 0 prog 48 #[b.val,h.val] w fun e w'=>e=.returned (mD (EN b h (b.dY.toNat+1)))∧Below w.heap.size w w':=by
 have hSt:∀ (d:Nat) (w:World),b.At w w.heap.size→CallsIn FF 0 prog 47 #[b.val,h.val,int i64 d] w fun e w'=>e=.returned (mD (stk b h d b.nm))∧Below w.heap.size w w':=fun d w hA=>gJ b h d w hA ok wm hok
 obtain⟨dY,mO,gA,ng,gc,g,mA,nm,mc,m,cA,nc,cc,c⟩:=b
 obtain⟨hf,hmm,lies⟩:=h
 simp only[Bk.val,Bk.cells,Ht.val,Ht.cells,mD] at hSt⊢
 simp only at hd
 obtain⟨D,rfl⟩:∃D:Nat,dY=(D:Int):=⟨dY.toNat,zo⟩
 obtain⟨T,hT⟩:∃T:Nat→Nat→Int,T=fun(d:Nat)=>stk (⟨D,mO,gA,ng,gc,g,mA,nm,mc,m,cA,nc,cc,c⟩:Bk) ⟨hf,hmm,lies⟩ d nm:=⟨_,rfl⟩
 obtain⟨L,hL⟩:∃L,L=EN (⟨D,mO,gA,ng,gc,g,mA,nm,mc,m,cA,nc,cc,c⟩:Bk) ⟨hf,hmm,lies⟩:=zE
 have hL0:L 0=hf:=by rw[hL];rfl
 have vb:∀k q,L (k+1) q=min (L k q) (T k q):=fun k q=>by rw[hL,hT];rfl
 have hTe:∀d:Nat,stk (⟨D,mO,gA,ng,gc,g,mA,nm,mc,m,cA,nc,cc,c⟩:Bk) ⟨hf,hmm,lies⟩ d nm=T d:=fun d=>by rw[hT]
 simp only[hTe] at hSt
 rw[show(D:Int).toNat+1=D+1 by simp,← hL]
 clear hL hT hTe ok hok
 have HA:=hid hA
 have HSt:=hid hSt
 have Sv:=hid vb
 clear hA hSt vb
 obtain⟨w4,hw4⟩:∃w4,w4=(((w.alloc (.cells #[int i64 D,int i64 mO,.slice gA ng gc,.slice mA nm mc,.slice cA nc cc] 73)).alloc (.cells #[int i64 (hf 0),int i64 (hf 1),int i64 (hf 2),int i64 (hmm 0),int i64 (hmm 1),int i64 (hmm 2),int i64 (hmm 3),int i64 (hmm 4),int i64 (hmm 5),int i64 lies] 91)).alloc (.cells #[int i64 0,int i64 0,int i64 0] 88)).alloc (.cells #[int i64 (hf 0),int i64 (hf 1),int i64 (hf 2)] 88):=zE
 have W0:Hid (Whole w4 w.heap.size 73 #[int i64 D,int i64 mO,.slice gA ng gc,.slice mA nm mc,.slice cA nc cc]):=hid (by rw[hw4];exact(((Whole.new w _ _).alloc _).alloc _).alloc _)
 have W1:Hid (Whole w4 (w.heap.size+1) 91 #[int i64 (hf 0),int i64 (hf 1),int i64 (hf 2),int i64 (hmm 0),int i64 (hmm 1),int i64 (hmm 2),int i64 (hmm 3),int i64 (hmm 4),int i64 (hmm 5),int i64 lies]):=hid (by
  have:=((Whole.new (w.alloc (.cells #[int i64 D,int i64 mO,.slice gA ng gc,.slice mA nm mc,.slice cA nc cc] 73)) 91 #[int i64 (hf 0),int i64 (hf 1),int i64 (hf 2),int i64 (hmm 0),int i64 (hmm 1),int i64 (hmm 2),int i64 (hmm 3),int i64 (hmm 4),int i64 (hmm 5),int i64 lies]).alloc (.cells #[int i64 0,int i64 0,int i64 0] 88)).alloc (.cells #[int i64 (hf 0),int i64 (hf 1),int i64 (hf 2)] 88)
  rw[World.size_alloc] at this;rw[hw4];exact this)
 have W2:Hid (Whole w4 (w.heap.size+1+1) 88 #[int i64 0,int i64 0,int i64 0]):=hid (by
  have:=(Whole.new ((w.alloc (.cells #[int i64 D,int i64 mO,.slice gA ng gc,.slice mA nm mc,.slice cA nc cc] 73)).alloc (.cells #[int i64 (hf 0),int i64 (hf 1),int i64 (hf 2),int i64 (hmm 0),int i64 (hmm 1),int i64 (hmm 2),int i64 (hmm 3),int i64 (hmm 4),int i64 (hmm 5),int i64 lies] 91)) 88 #[int i64 0,int i64 0,int i64 0]).alloc (.cells #[int i64 (hf 0),int i64 (hf 1),int i64 (hf 2)] 88)
  rw[World.size_alloc,World.size_alloc] at this;rw[hw4];exact this)
 have W3:Hid (Whole w4 (w.heap.size+1+1+1) 88 #[int i64 (L 0 0),int i64 (L 0 1),int i64 (L 0 2)]):=hid (by
  have:=Whole.new (((w.alloc (.cells #[int i64 D,int i64 mO,.slice gA ng gc,.slice mA nm mc,.slice cA nc cc] 73)).alloc (.cells #[int i64 (hf 0),int i64 (hf 1),int i64 (hf 2),int i64 (hmm 0),int i64 (hmm 1),int i64 (hmm 2),int i64 (hmm 3),int i64 (hmm 4),int i64 (hmm 5),int i64 lies] 91)).alloc (.cells #[int i64 0,int i64 0,int i64 0] 88)) 88 #[int i64 (hf 0),int i64 (hf 1),int i64 (hf 2)]
  rw[World.size_alloc,World.size_alloc,World.size_alloc] at this;rw[hw4,hL0];exact this)
 have WB:Hid (Below w.heap.size w w4):=hid (by rw[hw4];exact bw)
 have tt:=hid hw4
 clear hw4 hL0
 have eD:wrap64 ((D:Int)+1)=(D:Int)+1:=IntWalk.wrap64_in _ zo
 gi_enter func48,ntmps48
 gi_wp2
 rw[← tt.out]
 try rw[eD]
 clear tt eD
 gi_loopw [15] (fun i wr=>∃k:Nat,k≤D+1∧i=int i64 k∧Hid (Whole wr w.heap.size 73 #[int i64 D,int i64 mO,.slice gA ng gc,.slice mA nm mc,.slice cA nc cc]∧Whole wr (w.heap.size+1) 91 #[int i64 (hf 0),int i64 (hf 1),int i64 (hf 2),int i64 (hmm 0),int i64 (hmm 1),int i64 (hmm 2),int i64 (hmm 3),int i64 (hmm 4),int i64 (hmm 5),int i64 lies]∧Whole wr (w.heap.size+1+1) 88 #[int i64 0,int i64 0,int i64 0]∧Whole wr (w.heap.size+1+1+1) 88 #[int i64 (L k 0),int i64 (L k 1),int i64 (L k 2)]∧Below w.heap.size w wr)) (fun i _=>D+1 - (intOf i).toNat)
 case atStart=>exact⟨0,Nat.zero_le _,rfl,hid ⟨W0.out,W1.out,W2.out,W3.out,WB.out⟩⟩
 case round=>
  obtain⟨k,hk,rfl,hR⟩:=hrel
  clear W0 W1 W2 W3 WB
  have q0:=hR.out.1.cell
  have q1:=hR.out.2.1.cell
  have hs3:=hR.out.2.2.2.1.lt
  by_cases hlt:k<D+1
  ·have hdd:decide ((k:Int)<(D:Int)+1)=true:=decide_eq_true zo
   obtain⟨wo,rfl⟩:∃wo:World,wo=wr:=zE
   have hsz:w.heap.size≤wo.heap.size:=zo
   gi_wp2_with (gi_at_call 47;refine(HSt.out k _ ((HA.out.below hR.out.2.2.2.2).more hsz)).mono ?_;rintro e w2 ⟨rfl,hb2⟩;have HB2:Hid (Below wo.heap.size wo w2):=hid hb2;clear hb2)
   have V3:=hid (hR.out.2.2.2.1.below HB2.out hs3)
   have Ym:∀w,(Instr.index 88 (.agg #[int i64 (T k 0),int i64 (T k 1),int i64 (T k 2)]) (int i64 0)).run prog w=.ok (int i64 (T k 0)) w:=fun _=>zk
   have aaD:∀w,(Instr.index 88 (.agg #[int i64 (T k 0),int i64 (T k 1),int i64 (T k 2)]) (int i64 1)).run prog w=.ok (int i64 (T k 1)) w:=fun _=>zk
   have aaE:∀w,(Instr.index 88 (.agg #[int i64 (T k 0),int i64 (T k 1),int i64 (T k 2)]) (int i64 2)).run prog w=.ok (int i64 (T k 2)) w:=fun _=>zk
   gi_loopw [22] (fun j wj=>∃q:Nat,q≤3∧j=int i64 q∧Hid (Below (w.heap.size+1+1+1) w2 wj∧Whole wj (w.heap.size+1+1+1) 88 #[int i64 (if 0<q then L (k+1) 0 else L k 0),int i64 (if 1<q then L (k+1) 1 else L k 1),int i64 (if 2<q then L (k+1) 2 else L k 2)])) (fun j _=>3 - (intOf j).toNat)
   case atStart=>exact⟨0,zo,rfl,hid ⟨zB,V3.out⟩⟩
   case round=>
    obtain⟨q,hq,rfl,hS⟩:=hrel
    have hsw:=hS.out.2.lt
    by_cases hq3:q<3
    ·rcases(show q=0∨q=1∨q=2 by omega) with rfl|rfl|rfl
     ·have x0:wr.cell? ⟨w.heap.size+1+1+1,0,none⟩=some (int i64 (L k 0)):=hS.out.2.cell 0
      have xf:=hS.out.2.thaw 0
      have e:=Sv.out k 0
      have E:=hid e
      clear e
      gi_wp2
      exact⟨⟨0+1,zo,by go_num,hid ⟨hS.out.1.setCell (p:=⟨w.heap.size+1+1+1,0,none⟩) zL _,by have:=hS.out.2.set 0 (int i64 (min (L k 0) (T k 0)));rw[← E.out] at this⊢;exact this⟩⟩,by simp[intOf]⟩
     ·have x0:wr.cell? ⟨w.heap.size+1+1+1,1,none⟩=some (int i64 (L k 1)):=hS.out.2.cell 1
      have xf:=hS.out.2.thaw 1
      have e:=Sv.out k 1
      have E:=hid e
      clear e
      gi_wp2
      exact⟨⟨1+1,zo,by go_num,hid ⟨hS.out.1.setCell (p:=⟨w.heap.size+1+1+1,1,none⟩) zL _,by have:=hS.out.2.set 1 (int i64 (min (L k 1) (T k 1)));rw[← E.out] at this⊢;exact this⟩⟩,by simp[intOf]⟩
     ·have x0:wr.cell? ⟨w.heap.size+1+1+1,2,none⟩=some (int i64 (L k 2)):=hS.out.2.cell 2
      have xf:=hS.out.2.thaw 2
      have e:=Sv.out k 2
      have E:=hid e
      clear e
      gi_wp2
      exact⟨⟨2+1,zo,by go_num,hid ⟨hS.out.1.setCell (p:=⟨w.heap.size+1+1+1,2,none⟩) zL _,by have:=hS.out.2.set 2 (int i64 (min (L k 2) (T k 2)));rw[← E.out] at this⊢;exact this⟩⟩,by simp[intOf]⟩
    ·obtain rfl:q=3:=zo
     gi_wp2
     have HBw:Below w.heap.size w wr:=hR.out.2.2.2.2.trans ((HB2.out.mono hsz).trans (hS.out.1.mono zo))
     exact⟨⟨k+1,zo,by go_num,hid ⟨(hR.out.1.below HB2.out zo).below hS.out.1 zo,(hR.out.2.1.below HB2.out zo).below hS.out.1 zo,(hR.out.2.2.1.below HB2.out zo).below hS.out.1 zo,hS.out.2,HBw⟩⟩,by simp[intOf];omega⟩
  ·obtain rfl:k=D+1:=zo
   have hdd:decide (((D+1:Nat):Int)<(D:Int)+1)=false:=decide_eq_false zo
   have q3:=hR.out.2.2.2.1.cell
   have q2:=hR.out.2.2.1.cell
   have Xs:=hR.out.2.2.1.thaw
   gi_wp2
   have U:=(hR.out.2.2.1.iP (x:=int i64 (L (D+1) 0)) (y:=int i64 (L (D+1) 1)) (z:=int i64 (L (D+1) 2)))
   have u0:=U.cell 0
   have u1:=U.cell 1
   have u2:=U.cell 2
   clear q3 q2 Xs
   refine bodyPost_ret (v:=.agg #[int i64 (L (D+1) 0),int i64 (L (D+1) 1),int i64 (L (D+1) 2)]) (by simp[results,results48,go_sem,u0,u1,u2]) rfl ⟨rfl,aC hR.out.2.2.2.2 zo⟩
end
section
open Go.RowKit
open Go.Sort (grow)
def gM(b:Bk)(k:Nat):Int:=if 0<k then(b.m (k - 1)).day else 0
def gL(b:Bk)(k:Nat):Int:=if k<b.nm then(b.m k).day - 1 else b.dY
theorem dm(a b n:Int)(w:World):CallsIn SF 0 prog 92 #[.agg #[int i64 a,int i64 b],int i64 n] w fun e w'=>e=.returned (.bool (gK n a b))∧Below w.heap.size w w':=by
 gi_enter func92,ntmps92
 gi_wp2_with (gi_at_call 65;refine(W.dn _ _ _ _).mono ?_;rintro e w' ⟨rfl,rfl⟩)
 go_ret
 exact⟨rfl,bw⟩
theorem AK(x y z:Int)(B:Nat)(w:World)(h:Whole w B 88 #[int i64 x,int i64 y,int i64 z]):CallsIn SF 0 prog 132 #[.slice (some ⟨B,0,none⟩) 3 3] w fun e w'=>e=.returned (int i64 (min x (min y z)))∧Below w.heap.size w w':=by
 have c0:w.cell? ⟨B,0,none⟩=some (int i64 x):=h.cell 0
 have c1:w.cell? ⟨B,1,none⟩=some (int i64 y):=h.cell 1
 have c2:w.cell? ⟨B,2,none⟩=some (int i64 z):=h.cell 2
 clear h
 gi_enter func132,ntmps132
 gi_wp2
 refine wpIn_loop_rounds 4 ?_
 repeat (rw[roundsIn_succ];gi_wp2)
 all_goals first
  | (go_ret;exact⟨rfl,zB⟩)
  | trace_state
theorem Dp(b:Bk)(k:Nat)(w:World)(h:b.At w w.heap.size)(hk:k≤b.nm)(hn:b.nm≤6)(hd:∀i,i<b.nm→1≤(b.m i).day∧(b.m i).day≤1000):CallsIn SF 0 prog 107 #[b.val,int i64 k] w fun e w'=>e=.returned (.agg #[int i64 (gM b k),int i64 (gL b k)])∧Below w.heap.size w w':=by
 obtain⟨dY,mO,gA,ng,gc,g,mA,nm,mc,m,cA,nc,cc,c⟩:=b
 simp only at hk hn hd
 simp only[Bk.val,Bk.cells]
 obtain⟨lo,hlo⟩:∃lo,lo=gM (⟨dY,mO,gA,ng,gc,g,mA,nm,mc,m,cA,nc,cc,c⟩:Bk) k:=zE
 obtain⟨hi,hhi⟩:∃hi,hi=gL (⟨dY,mO,gA,ng,gc,g,mA,nm,mc,m,cA,nc,cc,c⟩:Bk) k:=zE
 rw[← hlo,← hhi]
 unfold gM at hlo
 unfold gL at hhi
 simp only at hlo hhi
 have row:∀i,i<nm→∃ad,mA=some ad∧(ad.add (i * 5)).block<w.heap.size∧w.cell? ⟨(ad.add (i * 5)).block,(ad.add (i * 5)).off+2,none⟩=some (int i64 (m i).day):=fun i hi=>by
  obtain⟨ad,hA',hbl,-⟩:=h.m (show 0<nm by omega)
  simp only at hA'
  subst hA'
  exact⟨ad,rfl,(by rw[aH];exact(h.m.row hi).1),(h.m.row hi).2 2 zD⟩
 have Row:=hid row
 clear row h
 have X:Hid (∀ (mA:Option Addr),Below w.heap.size w (((w.alloc (.cells #[int i64 dY,int i64 mO,.slice gA ng gc,.slice mA nm mc,.slice cA nc cc] 73)).alloc (.cells #[int i64 0,int i64 0] 28)).alloc (.cells #[int i64 0,int i64 dY] 28))):=hid fun mA=>bw
 by_cases h0:0<k
 ·have hd0:decide (0<(k:Int))=true:=zm
  rw[if_pos h0] at hlo
  obtain⟨ad,rfl,rb,r1⟩:=Row.out (k - 1) zo
  have s1:=((X.out (some ad)).cell (p:=⟨(ad.add ((k - 1) * 5)).block,(ad.add ((k - 1) * 5)).off+2,none⟩) rb).trans r1
  rw[← hlo] at s1
  have e2:0≤(k:Int) - 1:=zo
  have e2':1≤(k:Int):=zo
  have e4:(k:Int) - 1<nm:=zo
  have e3:((k:Int) - 1).toNat=k - 1:=zo
  have e1:IntKind.i64.wrap ((k:Int) - 1)=(k:Int) - 1:=IntWalk.i64_in _ zo
  by_cases hkn:k<nm
  ·have hd1:decide ((k:Int)<(nm:Int))=true:=decide_eq_true zo
   rw[if_pos hkn] at hhi
   obtain⟨OS,ha,XS,r2⟩:=Row.out k hkn
   cases ha
   have s2:=(((bw:Below w.heap.size w (((w.alloc (.cells #[int i64 dY,int i64 mO,.slice gA ng gc,.slice (some ad) nm mc,.slice cA nc cc] 73)).alloc (.cells #[int i64 0,int i64 0] 28)).alloc (.cells #[int i64 lo,int i64 dY] 28))).cell (p:=⟨(ad.add (k * 5)).block,(ad.add (k * 5)).off+2,none⟩) XS).trans r2)
   obtain⟨dk,hdk⟩:∃dk,dk=(m k).day:=zE
   have kv:=hd k hkn
   rw[← hdk] at s2 hhi kv
   have e5:wrap64 (dk - 1)=dk - 1:=IntWalk.wrap64_in _ zo
   subst hhi
   clear hlo r1 r2 hdk
   gi_enter func107,ntmps107
   gi_wp2
   refine bodyPost_ret (v:=.agg #[int i64 lo,int i64 (dk - 1)]) (by simp[results,results107,go_sem]) rfl ⟨rfl,bw⟩
  ·have hd1:decide ((k:Int)<(nm:Int))=false:=decide_eq_false zo
   rw[if_neg hkn] at hhi
   subst hhi
   clear hlo r1
   gi_enter func107,ntmps107
   gi_wp2
   refine bodyPost_ret (v:=.agg #[int i64 lo,int i64 hi]) (by simp[results,results107,go_sem]) rfl ⟨rfl,bw⟩
 ·obtain rfl:k=0:=zo
  rw[if_neg h0] at hlo
  subst hlo
  by_cases hkn:0<nm
  ·have hd1:decide (((0:Nat):Int)<(nm:Int))=true:=decide_eq_true zo
   have hd2:decide ((0:Int)<(nm:Int))=true:=decide_eq_true zo
   rw[if_pos hkn] at hhi
   obtain⟨ad,rfl,XS,r2⟩:=Row.out 0 hkn
   have s2:=((X.out (some ad)).cell (p:=⟨(ad.add (0 * 5)).block,(ad.add (0 * 5)).off+2,none⟩) XS).trans r2
   have s2':(((w.alloc (.cells #[int i64 dY,int i64 mO,.slice gA ng gc,.slice (some ad) nm mc,.slice cA nc cc] 73)).alloc (.cells #[int i64 0,int i64 0] 28)).alloc (.cells #[int i64 0,int i64 dY] 28)).cell? ⟨ad.block,ad.off+2,none⟩=some (int i64 (m 0).day):=by simpa [add_zero'] using s2
   obtain⟨dk,hdk⟩:∃dk,dk=(m 0).day:=zE
   have kv:=hd 0 hkn
   rw[← hdk] at s2' hhi kv
   have e5:wrap64 (dk - 1)=dk - 1:=IntWalk.wrap64_in _ zo
   subst hhi
   clear r2 s2 hdk
   gi_enter func107,ntmps107
   gi_wp2
   refine bodyPost_ret (v:=.agg #[int i64 0,int i64 (dk - 1)]) (by simp[results,results107,go_sem]) rfl ⟨rfl,bw⟩
  ·obtain rfl:nm=0:=zo
   rw[if_neg hkn] at hhi
   subst hhi
   gi_enter func107,ntmps107
   gi_wp2
   refine bodyPost_ret (v:=.agg #[int i64 0,int i64 hi]) (by simp[results,results107,go_sem]) rfl ⟨rfl,bw⟩
end
end Go.Proofs.YtpmafoalhnaokaaGreat
