/- AE0 AF0 AD6 AF2 -/
import Derived.Test.YthaelabgfnnebaaGreatB5
set_option maxRecDepth 100000
set_option maxHeartbeats 16000000
set_option linter.unusedVariables false
set_option linter.unusedSectionVars false
open Go.IntKind(i64)
open Go.Proofs.Tryz
open Go.Value(int)
namespace Go.Proofs.YthaelabgfnnebaaGreat
section
open Go.RowKit
theorem Sg(b:Bk)(ok:b.Ok):∀s∈ak b,cO s:=fun s hs=>by
 have:=List.mem_range.1 (List.mem_filter.1 hs).1
 exact Nat.lt_of_lt_of_le this (Nat.le_trans (Nat.pow_le_pow_right zD ok.moves.1) zD)
theorem BI(b:Bk)(x h:Ht)(d:Int)(hf:x.f=h.f)(hl:x.lies=h.lies):∀k:Nat,(∀i,i<k→x.m i=h.m i)→stk b x d k=stk b h d k
 | 0,_=>hf
 | Nat.succ k,hm=>by
   have ih:=BI b x h d hf hl k fun i hi=>hm i zo
   have e:Yv b x k=Yv b h k:=by unfold Yv Ht.real Ht.FQ;rw[hl,hm k zo]
   unfold stk
   rw[ih]
   split
   ·funext g;unfold yA;rw[e]
   ·rfl
theorem SQ{b:Bk}{s:Nat→Int}{lo hi:Int}(hl:lo≤hi)(h:iD b s lo hi=true):∀g,g<3→0≤s g:=fun g hg=>by
 unfold iD at h
 have e:decide (hi<lo)=false:=decide_eq_false zo
 rw[e,Bool.false_or,Bool.and_eq_true] at h
 have h2:=of_decide_eq_true h.2
 rcases(show g=0∨g=1∨g=2 by omega) with rfl|rfl|rfl <;> omega
theorem KX(b:Bk)(ok:ji b)(h0:0≤b.days):∀ (n k:Nat) (h:Ht) (x:Ht),k+n=b.nm→x∈fJ b n k h (stk b h b.days k)→∀g,g<3→0≤stk b x b.days b.nm g
 | 0,k,h,x,hk,hx=>by
   simp only[fJ] at hx
   split at hx
   ·rename_i hr
    obtain rfl:x=h:=by simpa using hx
    obtain rfl:k=b.nm:=zo
    refine SQ ?_ hr
    unfold jh jg
    rw[if_neg (Nat.lt_irrefl b.nm)]
    split
    ·exact(ok.2 (b.nm - 1) zo).day.2
    ·exact h0
   ·cases hx
 | Nat.succ n,k,h,x,hk,hx=>by
   simp only[fJ] at hx
   split at hx
   ·obtain⟨z,hz,hx⟩:=List.mem_flatMap.1 hx
    refine KX b ok h0 n (k+1) (bS h k z) x zo ?_
    have e:stk b (bS h k z) b.days (k+1)=yA b (stk b h b.days k) (bS h k z) k:=by
     show(if (b.m k).day≤b.days then yA b (stk b (bS h k z) b.days k) (bS h k z) k else stk b (bS h k z) b.days k)=_
     rw[if_pos (ok.2 k zo).day.2,BI b (bS h k z) h b.days rfl rfl k fun i hi=>by unfold bS;simp only;rw[if_neg zo]]
    rw[e]
    exact hx
   ·cases hx
theorem Dk(b:Bk)(ok:b.Ok)(ls:List Nat)(hl:∀s∈ls,cO s):∀h∈aD b ls,∀g,g<3→0≤stk b h b.days b.nm g∧stk b h b.days b.nm g≤693:=fun h hh g hg=>by
 have hok:=gK b ok ls hl h hh
 have hs:=(Kh (b:=b) hok b.days b.nm ok.moves.1 g hg).2
 have hm:=ok.moves.1
 refine⟨?_,zo⟩
 unfold aD at hh
 obtain⟨s,_,hh⟩:=List.mem_flatMap.1 hh
 unfold gW at hh
 obtain⟨f,_,hh⟩:=List.mem_flatMap.1 hh
 exact KX b ok.moves (by have:=ok.days;omega) b.nm 0 ⟨f,fun _=>0,s⟩ h zo hh g hg
theorem JV(q:Good)(m:Int)(hp:1≤q.pack∧q.pack≤20)(hm:-1000≤m∧m≤10000):0≤jP q m∧jP q m≤max 0 m∧m≤jP q m * q.pack∧(jP q m=0∨jP q m * q.pack - q.pack<m)∧(m≤0→jP q m=0)∧(1≤m→1≤jP q m):=by
 unfold jP
 obtain⟨nm,co,pk,lo,hi⟩:=q
 simp only at hp⊢
 have e1:wrap64 (m+pk)=m+pk:=IntWalk.wrap64_in _ zo
 have e2:wrap64 (m+pk - 1)=m+pk - 1:=IntWalk.wrap64_in _ zo
 rw[e1,e2]
 obtain⟨q,hq,h3⟩:∃q,(m+pk - 1).tdiv pk=q∧((0≤m+pk - 1∧q=(m+pk - 1) / pk)∨(m+pk - 1<0∧q=- ((-(m+pk - 1)) / pk))):=by
  refine⟨_,rfl,?_⟩
  by_cases h:0≤m+pk - 1
  ·exact .inl ⟨h,Int.tdiv_eq_ediv_of_nonneg h⟩
  ·refine .inr ⟨zo,?_⟩
   rw[← Int.tdiv_eq_ediv_of_nonneg (show 0≤-(m+pk - 1) by omega),Int.neg_tdiv,Int.neg_neg]
 rw[hq]
 clear e1 e2 hq
 obtain⟨h1,h2⟩:=hp
 have e:wrap64 q=q:=by
  refine IntWalk.wrap64_in _ ?_
  rcases(show pk=1∨pk=2∨pk=3∨pk=4∨pk=5∨pk=6∨pk=7∨pk=8∨pk=9∨pk=10∨pk=11∨pk=12∨pk=13∨pk=14∨pk=15∨pk=16∨pk=17∨pk=18∨pk=19∨pk=20 by omega) with rfl|rfl|rfl|rfl|rfl|rfl|rfl|rfl|rfl|rfl|rfl|rfl|rfl|rfl|rfl|rfl|rfl|rfl|rfl|rfl <;> omega
 rw[e]
 clear e
 rcases(show pk=1∨pk=2∨pk=3∨pk=4∨pk=5∨pk=6∨pk=7∨pk=8∨pk=9∨pk=10∨pk=11∨pk=12∨pk=13∨pk=14∨pk=15∨pk=16∨pk=17∨pk=18∨pk=19∨pk=20 by omega) with rfl|rfl|rfl|rfl|rfl|rfl|rfl|rfl|rfl|rfl|rfl|rfl|rfl|rfl|rfl|rfl|rfl|rfl|rfl|rfl <;> omega
theorem kG(b:Bk)(ok:b.Ok)(hl:∀s∈ak b,cO s)(hne:aD b (ak b)≠[])(k:Nat)(hk:k<3):(bX b k).2.2=true∧0≤(bX b k).1∧(bX b k).1≤(bX b k).2.1∧(bX b k).2.1≤693∧
 (∀h∈aD b (ak b),(bX b k).1≤stk b h b.days b.nm k∧stk b h b.days b.nm k≤(bX b k).2.1)∧(∃h∈aD b (ak b),stk b h b.days b.nm k=(bX b k).1)∧∃h∈aD b (ak b),stk b h b.days b.nm k=(bX b k).2.1:=by
 obtain⟨l,u,e,h1,h2,h3⟩:=Oq (fun h=>stk b h b.days b.nm k) hne
 have e':bX b k=(l,u,true):=e
 rw[e']
 obtain⟨p,hp,ep⟩:=h2
 obtain⟨q,hq,eq⟩:=h3
 have n1:=Dk b ok (ak b) hl p hp k hk
 have n2:=Dk b ok (ak b) hl q hq k hk
 have n3:=h1 p hp
 try simp only at ep eq n3
 exact⟨rfl,(by show 0≤l;omega),(by show l≤u;omega),(by show u≤693;omega),h1,⟨p,hp,ep⟩,⟨q,hq,eq⟩⟩
theorem IU(b:Bk)(ok:b.Ok)(hl:∀s∈ak b,cO s)(hne:aD b (ak b)≠[])(rt:Nat→Int)(d:Int)(k:Nat)(hk:k<b.ng)(hr:0≤rt k∧rt k≤99)(hd:0≤d∧d≤99):
 yB b rt d k=jP (b.g k) (rt k * d - (bX b k).1)∧-693≤rt k * d - (bX b k).1∧rt k * d - (bX b k).1≤9801:=by
 have hk3:k<3:=by have:=ok.bn.1.2;omega
 obtain⟨_,g1,g2,g3,_⟩:=kG b ok hl hne k hk3
 have h1:0≤rt k * d:=Int.mul_nonneg hr.1 hd.1
 have h2:rt k * d≤99 * 99:=Int.mul_le_mul hr.2 hd.2 hd.1 zD
 refine⟨?_,zo,zo⟩
 unfold yB
 rw[IntWalk.i64_in (rt k * d) zo,IntWalk.i64_in (rt k * d - (bX b k).1) zo]
end
section
open Go.RowKit Go.Maps
theorem uZ{x p:Lit × DataW Unit}:∀l:List (Lit × DataW Unit),p∈DataW.insert x l↔p=x∨p∈l
 | []=>by simp[DataW.insert]
 | y :: r=>by
   unfold DataW.insert
   split
   ·simp
   ·rw[List.mem_cons,uZ r,List.mem_cons]
    constructor
    ·rintro(h|h|h)
     ·exact .inr (.inl h)
     ·exact .inl h
     ·exact .inr (.inr h)
    ·rintro(h|h|h)
     ·exact .inr (.inl h)
     ·exact .inl h
     ·exact .inr (.inr h)
theorem ND(v:Ht→Int)(L:List Ht):∃es,mapD v L=.map es∧(∀p∈es,∃h∈L,p.1=Lit.int .i64 (v h))∧∀h∈L,∃p∈es,p.1=Lit.int .i64 (v h):=by
 have key:∀ (n:Nat) (L:List Ht),L.length=n→∃es,mapD v L=.map es∧(∀p∈es,∃h∈L,p.1=Lit.int .i64 (v h))∧∀h∈L,∃p∈es,p.1=Lit.int .i64 (v h):=by
  intro n
  induction n with
  | zero=>
    intro L hL
    obtain rfl:L=[]:=List.length_eq_zero_iff.1 hL
    exact⟨[],rfl,(fun p hp=>by cases hp),fun h hh=>by cases hh⟩
  | succ n ih=>
    intro L hL
    have hne:L≠[]:=fun e=>by rw[e] at hL;cases hL
    obtain⟨pre,h,rfl⟩:∃pre h,L=pre ++ [h]:=⟨L.dropLast,L.getLast hne,(List.dropLast_concat_getLast hne).symm⟩
    obtain⟨es,e,k1,k2⟩:=ih pre (by simpa using hL)
    refine⟨DataW.insert (Lit.int .i64 (v h),.lit (.bool true)) (es.filter fun p=>!p.1.sameKey (Lit.int .i64 (v h))),by rw[AQ,e];rfl,fun p hp=>?_,fun x hx=>?_⟩
    ·rcases(uZ _).1 hp with rfl|hp
     ·exact⟨h,zs,rfl⟩
     ·obtain⟨y,hy,ey⟩:=k1 p (List.mem_filter.1 hp).1
      exact⟨y,by simp[hy],ey⟩
    ·by_cases hv:v x=v h
     ·exact⟨_,(uZ _).2 (.inl rfl),by rw[hv]⟩
     ·have hx':x∈pre:=by
       rcases List.mem_append.1 hx with h1|h1
       ·exact h1
       ·obtain rfl:x=h:=by simpa using h1
        exact absurd rfl hv
      obtain⟨p,hp,ep⟩:=k2 x hx'
      refine⟨p,(uZ _).2 (.inr (List.mem_filter.2 ⟨hp,?_⟩)),ep⟩
      rw[ep,sameKey_ne (fun e=>hv (by injection e))]
      rfl
 exact key _ L rfl
theorem Jw(v:Ht→Int)(L:List Ht)(hL:L≠[]):0<Maps.size (mapD v L)∧∀ss:List Int,ss.Perm (intKeys (mapD v L))→∃l0 rest,ss.mergeSort (fun x y=>decide (x≤y))=l0 :: rest∧(∃h∈L,v h=l0)∧∀h∈L,l0≤v h:=by
 obtain⟨es,e,k1,k2⟩:=ND v L
 rw[e]
 obtain⟨x,hx⟩:=List.exists_mem_of_ne_nil L hL
 refine⟨?_,fun ss hp=>?_⟩
 ·obtain⟨p,hp,_⟩:=k2 x hx
  exact List.length_pos_of_mem hp
 ·have hm:∀y,y∈ss.mergeSort (fun x y=>decide (x≤y))↔y∈intKeys (.map es:DataW Unit):=fun y=>by rw[List.mem_mergeSort];exact hp.mem_iff
  have i1:∀y,y∈intKeys (.map es:DataW Unit)→∃h∈L,v h=y:=fun y hy=>by
   obtain⟨p,hp,rfl⟩:=List.mem_map.1 hy
   obtain⟨h,hh,ep⟩:=k1 p hp
   exact⟨h,hh,by rw[ep];rfl⟩
  have i2:∀h∈L,v h∈intKeys (.map es:DataW Unit):=fun h hh=>by
   obtain⟨p,hp,ep⟩:=k2 h hh
   exact List.mem_map.2 ⟨p,hp,by rw[ep];rfl⟩
  have hs:(ss.mergeSort (fun x y=>decide (x≤y))).Pairwise (fun a b=>decide (a≤b)=true):=List.pairwise_mergeSort (fun a b c h1 h2=>by simp only[decide_eq_true_eq] at *;omega) (fun a b=>by simp only[Bool.or_eq_true,decide_eq_true_eq];omega) ss
  cases hS:ss.mergeSort (fun x y=>decide (x≤y)) with
  | nil=>
    have:=(hm (v x)).2 (i2 x hx)
    rw[hS] at this
    cases this
  | cons l0 rest=>
    rw[hS] at hs hm
    refine⟨l0,rest,rfl,i1 l0 ((hm l0).1 List.mem_cons_self),fun h hh=>?_⟩
    rcases List.mem_cons.1 ((hm (v h)).2 (i2 h hh)) with e0|h1
    ·omega
    ·exact of_decide_eq_true ((List.pairwise_cons.1 hs).1 _ h1)
end
section
open Go.RowKit
theorem l8{α β:Type}{f:α→List β}{c:Nat}:∀ (l:List α),(∀x∈l,(f x).length≤c)→(l.flatMap f).length≤l.length * c
 | [],_=>zs
 | x :: l,h=>by
   have h1:=h x List.mem_cons_self
   have h2:=l8 l fun y hy=>h y (List.mem_cons_of_mem _ hy)
   rw[List.flatMap_cons,List.length_append,List.length_cons,Nat.add_mul,Nat.one_mul]
   omega
theorem Oo(lo:Int)(k:Nat):(bf lo k).length=k:=by unfold bf;simp
theorem Fh(b:Bk)(ok:b.Ok):∀ (n k:Nat) (h:Ht) (s:Nat→Int),k+n≤b.nm→(fJ b n k h s).length≤3 ^ n
 | 0,k,h,s,_=>by unfold fJ;split <;> simp
 | Nat.succ n,k,h,s,hk=>by
   unfold fJ
   split
   ·have hf:=jH (ok.moves.2 k zo).few
    have:=l8 (f:=fun x=>fJ b n (k+1) (bS h k x) (yA b s (bS h k x) k)) (c:=3 ^ n) (bf (b.m k).lo ((b.m k).hi - (b.m k).lo+1).toNat) fun x _=>Fh b ok n (k+1) _ _ zo
    rw[Oo] at this
    refine Nat.le_trans this ?_
    rw[Nat.pow_succ,Nat.mul_comm]
    exact Nat.mul_le_mul_left _ zo
   ·exact Nat.zero_le _
theorem TV(b:Bk)(ok:b.Ok)(s:Nat):(gW b s).length≤19683:=by
 unfold gW
 have h1:=l8 (f:=fun f=>fJ b b.nm 0 ⟨f,fun _=>0,s⟩ f) (c:=3 ^ b.nm) (bL b b.ng) fun f _=>Fh b ok b.nm 0 _ _ zo
 have h2:=lY b ok.bn b.ng (Nat.le_refl _)
 have h3:3 ^ b.nm≤3 ^ 6:=Nat.pow_le_pow_right zD ok.moves.1
 have h4:3 ^ b.ng≤3 ^ 3:=Nat.pow_le_pow_right zD ok.bn.1.2
 exact Nat.le_trans h1 (Nat.le_trans (Nat.mul_le_mul (Nat.le_trans h2 h4) h3) zD)
theorem Rz(b:Bk)(ok:b.Ok):(aD b (ak b)).length<2 ^ 40:=by
 unfold aD
 have h1:=l8 (f:=fun s=>gW b s) (c:=19683) ((ak b).filter fun s=>decide (pop s≤b.most)) fun s _=>TV b ok s
 have h2:((ak b).filter fun s=>decide (pop s≤b.most)).length≤64:=by
  refine Nat.le_trans (List.length_filter_le _ _) ?_
  unfold ak
  refine Nat.le_trans (List.length_filter_le _ _) ?_
  rw[List.length_range]
  exact Nat.le_trans (Nat.pow_le_pow_right zD ok.moves.1) zD
 exact Nat.lt_of_le_of_lt (Nat.le_trans h1 (Nat.mul_le_mul_right _ h2)) zD
end
section
open Go.RowKit Go.Maps
theorem Jr{w:World}{base:Nat}{e:TypeId}{A:Option Addr}{n c ng:Nat}{rt:Nat→Int}(h:w.ownsRow base e 1 (.slice A n c) ng (((List.range ng).map rt).map (int i64))):n=ng∧Ints w w.heap.size A ng rt:=by
 obtain⟨A',c',e'⟩:=dY h
 injection e' with e1 e2 e3
 subst e2
 have hI:=dw (l:=(List.range n).map rt) (by simpa using h)
 refine⟨rfl,fun hn=>?_⟩
 obtain⟨ad,e,hb,hc⟩:=hI (by simpa using hn)
 exact⟨ad,e,hb,fun i j hi hj=>by rw[hc i j (by simpa using hi) hj];show some (int i64 (((List.range n).map rt).getD i 0))=some (int i64 (rt i));congr 2;simp[List.getD,hi]⟩
theorem IK(b:Bk)(ok:b.Ok)(hcap:b.ng≤b.gc)(hl:∀s∈ak b,cO s)(gd:Nat)(hgd:gd<b.ng)(rt:Nat→Int)(hrt:∀i,0≤rt i∧rt i≤99)(d:Int)(hd:0≤d∧d≤99):∃ (sb l0 cost:Int) (n CN:Nat→Int),(sb=0∨sb=9)∧
 (∀ (rA:Option Addr) (rc:Nat) (w:World),b.At w w.heap.size→Ints w w.heap.size rA b.ng rt→CallsIn FF 0 prog 9 #[.agg b.cells,.slice rA b.ng rc,int i64 d] w fun e w'=>∃ (A:Option Addr) (len p:Nat),e=.returned (.tuple #[.slice A len p,int i64 cost,int i64 sb])∧(sb=0→len=b.ng)∧(sb=9→len=0)∧(sb=0→Ints w' w'.heap.size A b.ng n)∧Below w.heap.size w w')∧
 (∀ (w:World),b.At w w.heap.size→CallsIn FF 0 prog 10 #[.agg b.cells,int i64 gd,int i64 b.days] w fun e w'=>∃ (A:Option Addr) (len p:Nat),e=.returned (.tuple #[.slice A len p,int i64 sb])∧(sb=0→0<len∧len≤maxLen∧∃ad,A=some ad∧ad.block<w'.heap.size∧w'.cell? ad=some (int i64 l0))∧Below w.heap.size w w')∧
 (sb=0→CN 0=0∧(∀k,CN (k+1)=wrap64 (CN k+wrap64 (wrap64 (n k * (b.g k).pack) * (b.g k).cost)))∧CN b.ng=cost∧(∀k,k<b.ng→0≤n k∧n k≤9801)∧0≤l0∧l0≤693∧0≤n gd * (b.g gd).pack∧n gd * (b.g gd).pack≤196020∧0≤rt gd * d∧rt gd * d≤9801∧rt gd * d≤l0+n gd * (b.g gd).pack∧(n gd=0∨l0+n gd * (b.g gd).pack - (b.g gd).pack<rt gd * d)):=by
 have hdy:=ok.days
 have eD:((b.days.toNat:Nat):Int)=b.days:=zo
 have hg3:∀k,k<b.ng→k<3:=fun k hk=>by have:=ok.bn.1.2;omega
 by_cases hne:aD b (ak b)=[]
 ·refine⟨9,0,0,fun _=>0,fun _=>0,.inr rfl,fun rA rc w hA hI=>?_,fun w hA=>?_,fun h=>by cases h⟩
  ·refine(Kj b rA b.ng rc rt d w hA ok hcap hl hI rfl hne (fun i _=>hrt i) hd).mono ?_
   rintro e w' ⟨rfl,hb⟩
   exact⟨none,0,0,rfl,(fun h=>by cases h),(fun _=>rfl),(fun h=>by cases h),hb⟩
  ·have:=GH b gd b.days.toNat w hA ok hcap hl hgd zo hne
   rw[eD] at this
   refine this.mono ?_
   rintro e w' ⟨rfl,hb⟩
   exact⟨none,0,0,rfl,(fun h=>by cases h),hb⟩
 ·have hM:∀k,k<b.ng→yB b rt d k=jP (b.g k) (rt k * d - (bX b k).1)∧-693≤rt k * d - (bX b k).1∧rt k * d - (bX b k).1≤9801:=fun k hk=>IU b ok hl hne rt d k hk (hrt k) hd
  have hP:=fun k (hk:k<b.ng)=>JV (b.g k) (rt k * d - (bX b k).1) (ok.bn.2 k hk).pack (by have:=hM k hk;omega)
  refine⟨0,(bX b gd).1,qW b rt d b.ng,yB b rt d,qW b rt d,.inl rfl,fun rA rc w hA hI=>?_,fun w hA=>?_,fun _=>?_⟩
  ·refine(BP b rA b.ng rc rt d w hA ok hcap hl hI rfl (fun k hk=>(kG b ok hl hne k (hg3 k hk)).1) (fun k hk=>(ok.bn.2 k hk).pack.1) (fun i _=>hrt i) hd).mono ?_
   rintro e w' ⟨v,rfl,hown,hb⟩
   obtain⟨A,c,rfl⟩:=dY hown
   have hIn:=dw (l:=qh b rt d b.ng) (by rw[vR];exact hown)
   rw[vR] at hIn
   refine⟨A,b.ng,c,rfl,(fun _=>rfl),(fun h=>by cases h),fun _ hn=>?_,hb⟩
   obtain⟨ad,e,hb2,hc⟩:=hIn hn
   refine⟨ad,e,hb2,fun i j hi hj=>?_⟩
   rw[hc i j hi hj]
   have en:(qh b rt d b.ng).getD i 0=yB b rt d i:=by unfold qh;simp[List.getD,hi]
   show some (int i64 ((qh b rt d b.ng).getD i 0))=some (int i64 (yB b rt d i))
   rw[en]
  ·have hf:=Jw (fun h=>stk b h ((b.days.toNat:Nat):Int) b.nm gd) (aD b (ak b)) hne
   have:=xw b gd b.days.toNat w hA ok hcap hl (Rz b ok) hgd zo hf.1 (fun h hh=>by
    have hn:=Dk b ok (ak b) hl h hh gd (hg3 gd hgd)
    rw[eD]
    simp[Lit.wf,IntKind.min,IntKind.max,IntKind.signed,IntKind.bits]
    omega)
   refine CallsIn.mono (by rw[eD] at this;exact this) ?_
   rintro e w' ⟨vv,ss,rfl,hp,hown,hb⟩
   obtain⟨l0,rest,es,⟨h0,hh0,e0⟩,hmin⟩:=hf.2 ss (by rw[eD];exact hp)
   rw[eD] at e0 hmin
   have hl0:l0=(bX b gd).1:=by
    obtain⟨_,_,_,_,g4,⟨p,hp,ep⟩,_⟩:=kG b ok hl hne gd (hg3 gd hgd)
    have h1:=(g4 h0 hh0).1
    have h2:=hmin p hp
    try simp only at e0 h2
    omega
   have hlen:ss.length=(l0 :: rest).length:=by rw[← es,List.length_mergeSort]
   have hlm:=Wt hown
   obtain⟨A,c,rfl⟩:=dY hown
   rw[es] at hown
   have hown2:w'.ownsRow w.heap.size 3 1 (.slice A (l0 :: rest).length c) (l0 :: rest).length ((l0 :: rest).map (int i64)):=by rw[← hlen];exact hown
   have hIn:=dw hown2
   obtain⟨ad,rfl,hb2,hc⟩:=hIn zs
   have hc0:=hc 0 0 zs zD
   refine⟨some ad,ss.length,c,rfl,fun _=>⟨by rw[hlen];simp,hlm,ad,rfl,hb2,?_⟩,hb⟩
   rw[← hl0]
   exact hc0
  ·obtain⟨_,g1,g2,g3,_⟩:=kG b ok hl hne gd (hg3 gd hgd)
   obtain⟨p1,p2,p3,p4,_,_⟩:=hP gd hgd
   obtain⟨m1,m2,m3⟩:=hM gd hgd
   have hpk:=(ok.bn.2 gd hgd).pack
   refine⟨rfl,fun k=>rfl,rfl,fun k hk=>?_,g1,zo,?_⟩
   ·rw[(hM k hk).1]
    have:=hP k hk
    have:=hM k hk
    omega
   ·rw[m1]
    have h1:0≤jP (b.g gd) (rt gd * d - (bX b gd).1) * (b.g gd).pack:=Int.mul_nonneg p1 zo
    have h2:jP (b.g gd) (rt gd * d - (bX b gd).1) * (b.g gd).pack≤9801 * 20:=Int.mul_le_mul zo hpk.2 zo zD
    have h3:0≤rt gd * d:=Int.mul_nonneg (hrt gd).1 hd.1
    have h4:rt gd * d≤99 * 99:=Int.mul_le_mul (hrt gd).2 hd.2 hd.1 zD
    refine⟨h1,zo,h3,zo,zo,?_⟩
    rcases p4 with p4|p4
    ·exact .inl p4
    ·exact .inr zo
end
end Go.Proofs.YthaelabgfnnebaaGreat
