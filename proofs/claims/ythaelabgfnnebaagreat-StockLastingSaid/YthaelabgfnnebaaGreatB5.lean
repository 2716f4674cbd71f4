/- AE1 AE3 -/
import Derived.Test.YthaelabgfnnebaaGreatB4
set_option maxRecDepth 100000
set_option maxHeartbeats 16000000
set_option linter.unusedVariables false
set_option linter.unusedSectionVars false
open Go.IntKind(i64)
open Go.Proofs.Tryz
open Go.Value(int)
namespace Go.Proofs.YthaelabgfnnebaaGreat
section
open Go.RowKit
theorem RF(b:Bk)(ok:b.Ok)(hcap:b.ng≤b.gc)(hl:∀s∈ak b,cO s):∃ (V:Nat→Int→Int × Int) (sb:Int),(sb=0∨sb=9)∧
 (∀ (gd:Nat) (rt:Int) (w:World),b.At w w.heap.size→gd<b.ng→1≤rt∧rt≤99→CallsIn FF 0 prog 12 #[.agg b.cells,int i64 gd,int i64 rt] w fun e w'=>e=.returned (.tuple #[.agg #[int i64 (V gd rt).1,int i64 (V gd rt).2],int i64 sb])∧Below w.heap.size w w')∧
 (sb=0→∀ (gd:Nat) (r q:Int),gd<b.ng→1≤r→r≤q→q≤99→0≤(V gd r).1∧(V gd r).1≤(V gd r).2∧(V gd r).2≤693∧(V gd q).1≤(V gd r).1∧(V gd q).2≤(V gd r).2)∧
 (sb=0→∀ (gd:Nat) (r d:Int) (rA:Option Addr) (rc:Nat) (rt:Nat→Int) (w:World),b.At w w.heap.size→gd<b.ng→1≤r∧r≤99→0≤d∧d≤99→Ints w w.heap.size rA b.ng rt→(∀i,rt i=if i=gd then r else 0)→
  CallsIn FF 0 prog 9 #[.agg b.cells,.slice rA b.ng rc,int i64 d] w fun e w'=>∃ (A:Addr) (p:Nat) (cost n:Int),e=.returned (.tuple #[.slice (some A) b.ng p,int i64 cost,int i64 0])∧w'.cell? (A.add gd)=some (int i64 n)∧Below w.heap.size w w'∧(d≤(V gd r).1→cost=0∧n=0)∧((V gd r).1<d→0<n)):=by
 refine⟨fun gd rt=>((bf (fun h=>IntKind.i64.wrap ((stk b h b.days b.nm gd).tdiv rt)) (aC b (ak b))).1,(bf (fun h=>IntKind.i64.wrap ((stk b h b.days b.nm gd).tdiv rt)) (aC b (ak b))).2.1),if (aC b (ak b)).isEmpty then 9 else 0,?_,?_,?_,?_⟩
 ·split <;> simp
 ·intro gd rt w hA hgd hrt
  refine(Gu b gd w hA ok hcap hl hgd rt hrt).mono fun e w' h=>⟨?_,h.2⟩
  rw[h.1]
  have:(if (bf (fun h=>IntKind.i64.wrap ((stk b h b.days b.nm gd).tdiv rt)) (aC b (ak b))).2.2=true then(0:Int) else 9)=if (aC b (ak b)).isEmpty=true then 9 else 0:=by
   cases hL:aC b (ak b) with
   | nil=>rfl
   | cons x l=>
     obtain⟨p,q,e,_⟩:=sU (fun h=>IntKind.i64.wrap ((stk b h b.days b.nm gd).tdiv rt)) (L:=x :: l) zs
     rw[e]
     rfl
  rw[this]
 ·intro h0 gd r q hgd h1 h2 h3
  have hne:aC b (ak b)≠[]:=fun e=>by rw[e] at h0;simp at h0
  have hg3:gd<3:=by have:=ok.bJ.1.2;omega
  simp only[nk b ok hl hne gd hg3 r ⟨h1,zo⟩,nk b ok hl hne gd hg3 q ⟨zo,h3⟩]
  obtain⟨_,g1,g2,g3,_⟩:=fZ b ok hl hne gd hg3
  have:=Int.ediv_le_self r (show 0≤(bC b gd).2.1 by omega)
  exact⟨Int.ediv_nonneg g1 zo,Int.ediv_le_ediv zo g2,zo,tN g1 h1 h2,tN zo h1 h2⟩
 ·intro h0 gd r d rA rc rt w hA hgd hr hd hI hrt
  have hne:aC b (ak b)≠[]:=fun e=>by rw[e] at h0;simp at h0
  have hg3:gd<3:=by have:=ok.bJ.1.2;omega
  have hrb:∀i,0≤rt i∧rt i≤99:=fun i=>by rw[hrt i];split <;> omega
  refine(BJ b rA b.ng rc rt d w hA ok hcap hl hI rfl (fun k hk=>(fZ b ok hl hne k (by have:=ok.bJ.1.2;omega)).1) (fun k hk=>(ok.bJ.2 k hk).pack.1) (fun i _=>hrb i) hd).mono ?_
  rintro e w' ⟨v,rfl,hown,hb⟩
  obtain⟨A,c,rfl⟩:=fF hown
  have hIn:=dW (l:=qN b rt d b.ng) (by rw[vO];exact hown)
  rw[vO] at hIn
  obtain⟨ad,rfl,-⟩:=hIn zo
  have hc:=Ints.at_ hIn hgd
  have en:(qN b rt d b.ng).getD gd 0=yB b rt d gd:=by unfold qN;simp[List.getD,hgd]
  rw[en] at hc
  simp only[nk b ok hl hne gd hg3 r hr]
  have hM:∀k,k<b.ng→yB b rt d k=lD (b.g k) (rt k * d - (bC b k).1)∧-693≤rt k * d - (bC b k).1∧rt k * d - (bC b k).1≤9801:=fun k hk=>Iy b ok hl hne rt d k hk (hrb k) hd
  have hP:=fun k (hk:k<b.ng)=>JE (b.g k) (rt k * d - (bC b k).1) (ok.bJ.2 k hk).pack (by have:=hM k hk;omega)
  have eg:rt gd=r:=by rw[hrt gd,if_pos rfl]
  obtain⟨_,g1,g2,g3,_⟩:=fZ b ok hl hne gd hg3
  refine⟨ad,c,_,_,rfl,hc,hb,fun hle=>?_,fun hlt=>?_⟩
  ·have hle2:r * d≤(bC b gd).1:=by
    have h1:(bC b gd).1 / r * r≤(bC b gd).1:=Int.ediv_mul_le _ zo
    have h2:d * r≤(bC b gd).1 / r * r:=Int.mul_le_mul_of_nonneg_right hle zo
    rw[Int.mul_comm]
    exact Int.le_trans h2 h1
   have hz:∀k,k<b.ng→yB b rt d k=0:=fun k hk=>by
    rw[(hM k hk).1]
    refine(hP k hk).2.2.2.2.1 ?_
    by_cases hkg:k=gd
    ·subst hkg;rw[eg];omega
    ·rw[hrt k,if_neg hkg,Int.zero_mul]
     have:=(fZ b ok hl hne k (by have:=ok.bJ.1.2;omega)).2.1
     omega
   exact⟨Ao b rt d b.ng hz,hz gd hgd⟩
  ·rw[(hM gd hgd).1]
   have:1≤rt gd * d - (bC b gd).1:=by
    rw[eg]
    have h1:(bC b gd).1<((bC b gd).1 / r+1) * r:=Int.lt_ediv_add_one_mul_self _ zo
    have h2:((bC b gd).1 / r+1) * r≤d * r:=Int.mul_le_mul_of_nonneg_right zo zo
    have h3:r * d=d * r:=Int.mul_comm _ _
    omega
   have:=(hP gd hgd).2.2.2.2.2 this
   omega
theorem Ni{w:World}{B:Nat}{ng gd:Nat}{r:Int}(h:Whole w B 3 (Array.replicate ng (int i64 0)))(hg:gd<ng):Ints (w.setCell ⟨B,gd,none⟩ (int i64 r)) w.heap.size (some ⟨B,0,none⟩) ng (fun i=>if i=gd then r else 0):=fun hn=>by
 refine⟨_,rfl,h.lt,fun i j hi hj=>?_⟩
 obtain rfl:j=0:=zo
 have hs:=(h.set gd (int i64 r)).cell i
 have e:(⟨B,0,none⟩:Addr).add (i * 1+0)=⟨B,i,none⟩:=by unfold Addr.add;by_cases h0:i=0 <;> simp[h0]
 rw[e,hs,Array.getElem?_setIfInBounds]
 by_cases hc:gd=i
 ·subst hc;simp[hg]
 ·rw[if_neg hc]
  simp[hi,show ¬ i=gd from fun e=>hc e.symm]
theorem Nt(n:Nat)(h:1≤n∧n≤3)(w:World):(Instr.makeSlice 30 (int i64 n) (int i64 n)).run prog w=.ok (.slice (some ⟨w.heap.size,0,none⟩) n n) (w.alloc (.cells (Array.replicate n (int i64 0)) 3)):=by
 rcases(show n=1∨n=2∨n=3 by omega) with rfl|rfl|rfl <;> kernel_rfl
end
end Go.Proofs.YthaelabgfnnebaaGreat
