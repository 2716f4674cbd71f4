/- P8 P9 P10 P11 P12 P13 P18 WP12 WP13 -/
import Derived.Test.YthaelabgfnnebaaGreatA4
set_option maxRecDepth 100000
set_option maxHeartbeats 16000000
set_option linter.unusedVariables false
set_option linter.unusedSectionVars false
open Go.IntKind(i64)
open Go.Lib(hid)
open Go.Proofs.Tryz
open Go.Value(int)
namespace Go.Proofs.YthaelabgfnnebaaGreat
section
open Go.RowKit
def Ny(b:Bk)(s:Nat):Bool:=decide (∀i,i<b.nm→s / 2 ^ i % 2=1→(b.m i).kind=0)
def bO(b:Bk)(k:Nat):List Int:=((List.range k).filter fun s=>Ny b s).map fun(n:Nat)=>(n:Int)
theorem tX(b:Bk)(k:Nat):bO b (k+1)=bO b k ++ if Ny b k=true then[(k:Int)] else[]:=by
 unfold bO
 rw[List.range_succ,List.filter_append,List.map_append]
 by_cases h:Ny b k=true <;> simp[h]
theorem Jy(b:Bk)(k:Nat):(bO b k).length≤k:=by
 unfold bO
 rw[List.length_map]
 exact Nat.le_trans (List.length_filter_le _ _) zs
theorem Od{s k:Nat}{x:Int}(h:x∈aL s k):∃i:Nat,x=i∧i<k∧s / 2 ^ i % 2=1:=by
 unfold aL at h
 obtain⟨i,hi,rfl⟩:=List.mem_map.1 h
 obtain⟨h1,h2⟩:=List.mem_filter.1 hi
 exact⟨i,rfl,List.mem_range.1 h1,by simpa using h2⟩
theorem Ob{s k i:Nat}(hi:i<k)(h:s / 2 ^ i % 2=1):(i:Int)∈aL s k:=by
 unfold aL
 exact List.mem_map.2 ⟨i,List.mem_filter.2 ⟨List.mem_range.2 hi,by simp[h]⟩,rfl⟩
theorem ZT{s n i:Nat}(hs:s<2 ^ n)(h:s / 2 ^ i % 2=1):i<n:=by
 rcases Nat.lt_or_ge i n with h1|h1
 ·exact h1
 ·rw[Nat.div_eq_of_lt (Nat.lt_of_lt_of_le hs (Nat.pow_le_pow_right (n:=2) zD h1))] at h
  cases h
def jF(w:World)(v:Value):Prop:=∀g,v.ownBlock=some g→∃c e,w.heap[g]? =some (.cells c e (0,0))∧∀x∈c.toList,∃n,x=int i64 n
section
variable{w w':World}{v v':Value}
theorem jF.nil(w:World):jF w (.slice none 0 0):=fun g h=>by cases h
theorem jF.of(h:jF w v)(hk:∀g,v.ownBlock=some g→g<w.heap.size→w'.heap[g]? =w.heap[g]?):jF w' v:=fun g hg=>by
 obtain⟨c,e,h1,h2⟩:=h g hg
 exact⟨c,e,(hk g hg (Array.getElem?_eq_some_iff.1 h1).1).trans h1,h2⟩
theorem jF.below(h:jF w v)(hb:Below w.heap.size w w'):jF w' v:=h.of fun _ _ hl=>hb.block _ hl
theorem jF.alloc(h:jF w v)(o:Obj):jF (w.alloc o) v:=h.of fun _ _ hl=>Below.heap_alloc _ _ _ hl
theorem jF.other{p:Addr}(h:jF w v)(hne:∀g,v.ownBlock=some g→g≠p.block)(x:Value):jF (w.setCell p x) v:=h.of fun g hg _=>Below.heap_setCell _ _ _ _ (hne g hg)
theorem Cg(k:Nat):∀x∈(Builtin.zeroCells (int i64 0).cells k).toList,∃n,x=int i64 n:=fun x hx=>by
 unfold Builtin.zeroCells at hx
 rw[Array.toList_map] at hx
 obtain⟨i,hi,rfl⟩:=List.mem_map.1 hx
 exact⟨0,by simp[Value.cells,Nat.mod_one]⟩
theorem yL{base n m c:Nat}{xs news:List Value}{ad:Addr}{ty:TypeId}{i:TypeInfo}(hi:Tryz.prog.info? 3=some i)(hz:i.zero=some (int i64 0))(hs:i.size=1)(hby:i.bytes=8)(hown:w.ownsRow base 3 1 v n xs)(hib:jF w v)
 (hl:news.length=m)(hnews:∀j u,news[j]? =some u→w.cell? (ad.add j)=some u)(hint:∀u∈news,∃k,u=int i64 k)(hm:0<m)(h63:n+m≤maxLen)(hbytes:(n+m) * 8≤140737488355328)
 (hr:(Builtin.append_ #[30,30] ty #[v,.slice (some ad) m c]).run prog w=.ok v' w'):jF w' v':=by
 have hsmall:n+m≤9223372036854775807:=by simp only[maxLen] at h63;omega
 have h1:∀u∈news,u.oneCell'=true:=fun u hu=>by obtain⟨k,rfl⟩:=hint u hu;rfl
 have hl':news.length=m * i.size:=by rw[hs,hl];omega
 rcases hown.2 with⟨rfl,rfl⟩|⟨g,cap,cur,rfl,hbg,hg,hnc,hcm,hcs,htake⟩
 ·have hr':=run_append_nil (P:=prog) w 30 ty 3 i _ underlying30 hi hz ad m c news hl' hnews hm zo (by rw[hby];omega)
  rw[hr] at hr'
  injection hr' with e1 e2
  subst e1
  subst e2
  intro g hg
  cases hg
  refine⟨_,_,heap_alloc_new w.drew _,fun x hx=>?_⟩
  simp only[Array.toList_append,List.mem_append] at hx
  rcases hx with hx|hx
  ·exact hint x hx
  ·exact Cg _ x hx
 ·obtain⟨c2,e2,h2,h3⟩:=hib g rfl
  rw[hg] at h2
  cases h2
  by_cases hroom:n+m≤cap
  ·have hr':=run_append_room (P:=prog) w 30 ty 3 i underlying30 hi g n cap cur hg ad m c news hl' hnews h1 hroom (by rw[hl',hs,hcs];omega)
   rw[hr] at hr'
   injection hr' with e1 e2
   subst e1
   subst e2
   intro g' hg'
   cases hg'
   refine⟨_,_,setRow_heap w g cur _ _ _ hg,fun x hx=>?_⟩
   simp only[List.mem_append] at hx
   rcases hx with(hx|hx)|hx
   ·exact h3 x (List.mem_of_mem_take hx)
   ·exact hint x hx
   ·exact h3 x (List.mem_of_mem_drop hx)
  ·have holds:∀j u,xs[j]? =some u→w.cell? ((⟨g,0,none⟩:Addr).add j)=some u:=hown.cells (g:=g) rfl
   have hr':=run_append_grow (P:=prog) w 30 ty 3 i _ underlying30 hi hz ⟨g,0,none⟩ n cap xs (by rw[hs];exact hown.1) holds ad m c news hl' hnews zo zo (by rw[hby];exact growslice_fits zo hbytes)
   rw[hr] at hr'
   injection hr' with e1 e2
   subst e1
   subst e2
   intro g' hg'
   cases hg'
   refine⟨_,_,heap_alloc_new w.drew _,fun x hx=>?_⟩
   simp only[Array.toList_append,List.mem_append] at hx
   rcases hx with(hx|hx)|hx
   ·rw[← htake] at hx
    exact h3 x (List.mem_of_mem_take hx)
   ·exact hint x hx
   ·exact Cg _ x hx
theorem Ej{o:Oper}{a:Act}{K:Act→World→Prop}{Q:Exit→Act→World→Prop}{s x:Operand}{i:TypeInfo}(ho:o.op=.call {callee:=.builtin .append,args:=#[s,x],argTypes:=#[30,30] })
 (base:Nat)(hi:Tryz.prog.info? 3=some i)(hz:i.zero=some (int i64 0))(hs:i.size=1)(hby:i.bytes=8)(v:Value)(n:Nat)(xs:List Value)(hv:a.eval s=v)(hown:w.ownsRow base 3 1 v n xs)(hib:jF w v)
 (ad:Addr)(m c:Nat)(news:List Value)(hx:a.eval x=.slice (some ad) m c)(hl:news.length=m)(hnews:∀j u,news[j]? =some u→w.cell? (ad.add j)=some u)(hint:∀u∈news,∃k,u=int i64 k)(hm:0<m)(h63:n+m≤maxLen)(hbytes:(n+m) * 8≤140737488355328)(hbase:base≤w.heap.size)(H:Nat)(hH:w.heap.size=H)
 (h:∀g cap w',w'.ownsRow base 3 1 (.slice (some ⟨g,0,none⟩) (n+m) cap) (n+m) (xs ++ news)→w.grownBy w' v.ownBlock→(v.ownBlock=some g∨g=H)→g<w'.heap.size→jF w' (.slice (some ⟨g,0,none⟩) (n+m) cap)→K (a.put o.dst (.slice (some ⟨g,0,none⟩) (n+m) cap)) w'):o.wp prog a w K Q:=by
 have h1:∀u∈news,u.oneCell'=true:=fun u hu=>by obtain⟨k,rfl⟩:=hint u hu;rfl
 obtain⟨g,cap,w',hr,h2,h3,h4,h5⟩:=run_append_lies (P:=prog) w 30 o.type base 3 i _ 1 8 underlying30 hi hz hs hby rfl zo v n xs hown ad m c news zo hnews h1 hm h63 hbytes hbase H hH
 have h6:=yL hi hz hs hby hown hib hl hnews hint hm h63 hbytes hr
 unfold Oper.wp execOp
 simp only[ho,resolve,invoke,builtin,Sem.run_bind,Sem.run_pure,Result.andThen_ok,List.map_toArray,List.map_cons,List.map_nil,hv,hx,hr]
 exact h g cap w' h2 h3 h4 h5 h6
end
theorem Mx(b:Bk)(w:World)(h:b.At w w.heap.size)(hm:b.nm≤6):CallsIn FF 0 prog 70 #[b.val] w fun e w'=>∃v,e=.returned v∧w'.ownsRow w.heap.size 3 1 v (bO b (2 ^ b.nm)).length ((bO b (2 ^ b.nm)).map (int i64))∧Below w.heap.size w w'∧jF w' v:=by
 obtain⟨days,most,gA,ng,gc,g,mA,nm,mc,m,cA,nc,cc,c⟩:=b
 simp only[Bk.val,Bk.cells]
 simp only at hm
 have me:2 ^ nm≤64:=Nat.le_trans (Nat.pow_le_pow_right zD hm) zD
 have eW:wrap64 ((2:Int) ^ nm)=((2 ^ nm:Nat):Int):=by
  have e:((2:Int) ^ nm)=((2 ^ nm:Nat):Int):=by push_cast;rfl
  have key:∀M:Nat,M≤64→wrap64 (M:Int)=(M:Int):=fun M h=>IntWalk.wrap64_in _ zo
  rw[e];exact key _ me
 have Hh:=hid h
 clear h
 obtain⟨i0,hi,hz0,hz1,hz2⟩:=info_parts info3
 have hi0:=hid hi
 clear hi
 gi_enter func70,ntmps70
 gi_wp2
 apply KD
 gi_wp2
 apply wpIn_label
 gi_wp2
 rw[eW]
 clear eW
 obtain⟨M,hM⟩:∃M:Nat,M=2 ^ nm:=⟨_,rfl⟩
 rw[← hM] at me⊢
 have HM:=hid hM
 clear hM
 gi_loopw [3,12] (fun l i wr=>∃k:Nat,k≤M∧i=int i64 k∧Hid (wr.ownsRow (w.heap.size+1) 3 1 l (bO (⟨days,most,gA,ng,gc,g,mA,nm,mc,m,cA,nc,cc,c⟩:Bk) k).length ((bO (⟨days,most,gA,ng,gc,g,mA,nm,mc,m,cA,nc,cc,c⟩:Bk) k).map (int i64))∧Below (w.heap.size+1) (w.alloc (.cells #[int i64 days,int i64 most,.slice gA ng gc,.slice mA nm mc,.slice cA nc cc] 74)) wr∧jF wr l)) (fun _ i _=>M - (intOf i).toNat)
 case atStart=>exact⟨0,Nat.zero_le _,rfl,hid ⟨mG _ (w.heap.size+1) 3,Below.refl _ _,jF.nil _⟩⟩
 case round=>
  obtain⟨k,hk,rfl,hR⟩:=hrel
  obtain⟨A,n,cp,rfl⟩:=fP hR.out.1
  have hsz:w.heap.size+1≤wr.heap.size:=by have:=hR.out.2.1.size;simpa using this
  by_cases hlt:k<M
  ·obtain⟨wo,rfl⟩:∃wo:World,wo=wr:=⟨_,rfl⟩
   gi_wp2_with (gi_at_call 96;refine(mo k wo zo).mono ?_;rintro e w2 ⟨v2,rfl,hown2,hb2⟩;obtain⟨A2,c2,rfl⟩:=dY hown2;have HB2:=hid hb2;have Ss:=hid hown2;clear hb2 hown2)
   have AM:k<2 ^ nm:=by have:=HM.out;omega
   have hs2:wo.heap.size≤w2.heap.size:=HB2.out.size
   have Jk:Hid ((⟨days,most,gA,ng,gc,g,mA,nm,mc,m,cA,nc,cc,c⟩:Bk).At w2 (w.heap.size+1)):=hid (((Hh.out.alloc (Nat.le_refl _) (.cells #[int i64 days,int i64 most,.slice gA ng gc,.slice mA nm mc,.slice cA nc cc] 74)).more (Nat.le_succ _)).below (hR.out.2.1.trans (HB2.out.mono hsz)))
   have wD:Hid (∀o,w2.cell? ⟨w.heap.size,o,none⟩=(w.alloc (.cells #[int i64 days,int i64 most,.slice gA ng gc,.slice mA nm mc,.slice cA nc cc] 74)).cell? ⟨w.heap.size,o,none⟩):=hid fun o=>(HB2.out.cell (p:=⟨w.heap.size,o,none⟩) zm).trans (hR.out.2.1.cell (p:=⟨w.heap.size,o,none⟩) zs)
   have hI2:Hid (Ints w2 w2.heap.size A2 (aL k 10).length (fun i=>(aL k 10).getD i 0)):=hid (dw Ss.out)
   have hll:=sU k 10
   obtain⟨L,hL⟩:∃L:List Int,L=aL k 10:=⟨_,rfl⟩
   have HL:=hid hL
   rw[← hL] at hI2 hll⊢
   clear hL
   gi_loopw [18] (fun j wj=>∃q:Nat,q≤L.length∧j=int i64 q∧Hid (Below w2.heap.size w2 wj∧∀i,i<q→(m (L.getD i 0).toNat).kind=0)) (fun j _=>L.length - (intOf j).toNat)
   case atStart=>exact⟨0,Nat.zero_le _,rfl,hid ⟨Below.refl _ _,fun i hi=>absurd hi (Nat.not_lt_zero i)⟩⟩
   case round=>
    obtain⟨q,hq,rfl,hS⟩:=hrel
    have hs3:w2.heap.size≤wr.heap.size:=hS.out.1.size
    have VF:w.heap.size<wr.heap.size:=zo
    have hbx:∀o,wr.cell? ⟨w.heap.size,o,none⟩=(w.alloc (.cells #[int i64 days,int i64 most,.slice gA ng gc,.slice mA nm mc,.slice cA nc cc] 74)).cell? ⟨w.heap.size,o,none⟩:=fun o=>(hS.out.1.cell (p:=⟨w.heap.size,o,none⟩) zm).trans (wD.out o)
    have HB3:Hid (Below (w.heap.size+1) wo wr):=hid ((HB2.out.mono hsz).trans (hS.out.1.mono zo))
    by_cases hq2:q<L.length
    ·obtain⟨ad,rfl,hbl,hcl⟩:=hI2.out (show 0<L.length by omega)
     obtain⟨i,hi,Y',hib⟩:=Od (s:=k) (k:=10) (x:=L[q]) (by rw[← HL.out];exact List.getElem_mem hq2)
     have hig:L.getD q 0=(i:Int):=by rw[← hi];simp[hq2]
     have hin:i<nm:=ZT AM hib
     have cq:wr.cell? (ad.add q)=some (int i64 i):=by
      have e:=Ints.at_ hI2.out hq2
      rw[hig] at e
      exact(hS.out.1.cell (by rw[aH];exact hbl)).trans e
     have hN:CallsIn FF 0 prog 58 #[.agg #[int i64 days,int i64 most,.slice gA ng gc,.slice mA nm mc,.slice cA nc cc],int i64 i] wr fun e w'=>e=.returned (.bool (decide ((m i).kind=0)))∧Below wr.heap.size wr w':=sK ⟨days,most,gA,ng,gc,g,mA,nm,mc,m,cA,nc,cc,c⟩ i wr ((Jk.out.below (hS.out.1.mono zo)).more zo) hin
     clear hcl hi
     by_cases hz:(m i).kind=0
     ·rw[decide_eq_true hz] at hN
      gi_wp2_with (gi_at_call 58;refine hN.mono ?_;rintro e w3 ⟨rfl,hb3⟩)
      go_roundw
      case rel=>exact⟨q+1,zo,by go_num,hid ⟨hS.out.1.trans (hb3.mono hs3),eF hS.out.2 (by rw[hig];exact hz)⟩⟩
      case measure=>simp[intOf];omega
     ·rw[decide_eq_false hz] at hN
      gi_wp2_with (gi_at_call 58;refine hN.mono ?_;rintro e w3 ⟨rfl,hb3⟩)
      have hw3:Below wo.heap.size wo w3:=HB2.out.trans ((hS.out.1.trans (hb3.mono hs3)).mono hs2)
      have e4:=tX ⟨days,most,gA,ng,gc,g,mA,nm,mc,m,cA,nc,cc,c⟩ k
      rw[if_neg (by unfold Ny;rw[decide_eq_false (fun h=>hz (h i hin hib))];decide),List.append_nil] at e4
      exact⟨⟨k+1,zo,by go_num,hid ⟨by rw[e4];exact own_below hR.out.1 hw3,hR.out.2.1.trans (hw3.mono hsz),hR.out.2.2.below hw3⟩⟩,by simp[intOf];omega⟩
    ·obtain rfl:q=L.length:=zo
     have nz:Ny ⟨days,most,gA,ng,gc,g,mA,nm,mc,m,cA,nc,cc,c⟩ k=true:=decide_eq_true (fun i hi hib=>by
      have hmem:(i:Int)∈L:=by rw[HL.out];exact Ob (by simp only at hi;omega) hib
      obtain⟨j,hj,gz⟩:=List.mem_iff_getElem.1 hmem
      have:=hS.out.2 j hj
      rwa[show L.getD j 0=(i:Int) by rw[← gz];simp[hj]] at this)
     have e4:=tX ⟨days,most,gA,ng,gc,g,mA,nm,mc,m,cA,nc,cc,c⟩ k
     rw[if_pos nz] at e4
     have E4:=hid e4
     have hle:=Jy ⟨days,most,gA,ng,gc,g,mA,nm,mc,m,cA,nc,cc,c⟩ k
     have hw3:Below wo.heap.size wo wr:=HB2.out.trans (hS.out.1.mono hs2)
     have hown:=own_below hR.out.1 hw3
     have Ho:=hid hown
     have RR:=hid (hR.out.2.2.below hw3)
     have fY:=hid hw3
     clear e4 hown hw3 nz
     gi_wp2_with (gi_at_builtin;refine aF rfl rfl rfl fun K5 jf=>?_;refine Ej rfl (w.heap.size+1) hi0.out hz0 hz1 hz2 (.slice A n cp) (bO ⟨days,most,gA,ng,gc,g,mA,nm,mc,m,cA,nc,cc,c⟩ k).length _ rfl (aX Ho.out _) (RR.out.alloc _) ⟨wr.heap.size,0,none⟩ 1 1 [_] rfl rfl (World.news_of_block (heap_alloc_new wr _)) zs zo zU zo zm (wr.heap.size+1) zs ?_;intro qM oH w5 hown5 aQ ni oI AK;refine jf _ _ ?_;clear jf K5)
     exact⟨⟨k+1,zo,by go_num,hid ⟨by rw[E4.out,List.length_append,List.map_append];exact hown5,((hR.out.2.1.trans (fY.out.mono hsz)).alloc zo _).trans (below_grown aQ zm (fun g hg=>(dF Ho.out hg).1)),AK⟩⟩,by simp[intOf];omega⟩
  ·obtain rfl:k=M:=zo
   have So:=HM.out
   gi_wp2
   rw[Exit.noGoto_ret]
   go_ret
   exact⟨_,rfl,by rw[← So];exact⟨hR.out.1.1,hR.out.1.2.imp id (fun⟨g,cap,cur,h1,h2,h3⟩=>⟨g,cap,cur,h1,zo,h3⟩)⟩,((Below.refl _ _).alloc (Nat.le_refl _) _).trans (hR.out.2.1.mono zs),hR.out.2.2⟩
def Bk.ZW(b:Bk)(A:Option Addr)(n p:Nat):Value:=.agg (b.cells ++ #[.slice A n p])
def Qv(b:Bk)(w:World)(e:Ending)(w':World):Prop:=∃A p,e=.returned (.tuple #[b.ZW A (bO b (2 ^ b.nm)).length p,int i64 0])∧
 w'.ownsRow w.heap.size 3 1 (.slice A (bO b (2 ^ b.nm)).length p) (bO b (2 ^ b.nm)).length ((bO b (2 ^ b.nm)).map (int i64))∧Below w.heap.size w w'
theorem dX{w:World}{base b:Nat}{e:TypeId}{v:Value}{size n:Nat}{l:List Value}(h:w.ownsRow base e size v n l)(hb:b≤base):w.ownsRow b e size v n l:=
 ⟨h.1,h.2.imp id fun⟨g,cap,cur,h1,h2,h3⟩=>⟨g,cap,cur,h1,Nat.le_trans hb h2,h3⟩⟩
theorem SA(b:Bk)(w:World)(h:b.At w w.heap.size)(ok:b.Ok)(hcap:b.ng≤b.gc):CallsIn FF 0 prog 33 #[b.val] w (fun e w'=>∃A p,e=.returned (.tuple #[b.ZW A (bO b (2 ^ b.nm)).length p,int i64 0])∧w'.ownsRow w.heap.size 3 1 (.slice A (bO b (2 ^ b.nm)).length p) (bO b (2 ^ b.nm)).length ((bO b (2 ^ b.nm)).map (int i64))∧Below w.heap.size w w'∧jF w' (.slice A (bO b (2 ^ b.nm)).length p)):=by
 obtain⟨days,most,gA,ng,gc,g,mA,nm,mc,m,cA,nc,cc,c⟩:=b
 have hC:∀w,(⟨days,most,gA,ng,gc,g,mA,nm,mc,m,cA,nc,cc,c⟩:Bk).At w w.heap.size→CallsIn FF 0 prog 69 #[.agg #[int i64 days,int i64 most,.slice gA ng gc,.slice mA nm mc,.slice cA nc cc]] w fun e w'=>e=.returned (int i64 0)∧Below w.heap.size w w':=fun w h=>Vf ⟨days,most,gA,ng,gc,g,mA,nm,mc,m,cA,nc,cc,c⟩ w h ok hcap
 have hL:∀w,(⟨days,most,gA,ng,gc,g,mA,nm,mc,m,cA,nc,cc,c⟩:Bk).At w w.heap.size→CallsIn FF 0 prog 70 #[.agg #[int i64 days,int i64 most,.slice gA ng gc,.slice mA nm mc,.slice cA nc cc]] w fun e w'=>∃v,e=.returned v∧w'.ownsRow w.heap.size 3 1 v (bO ⟨days,most,gA,ng,gc,g,mA,nm,mc,m,cA,nc,cc,c⟩ (2 ^ nm)).length ((bO ⟨days,most,gA,ng,gc,g,mA,nm,mc,m,cA,nc,cc,c⟩ (2 ^ nm)).map (int i64))∧Below w.heap.size w w'∧jF w' v:=fun w h=>Mx ⟨days,most,gA,ng,gc,g,mA,nm,mc,m,cA,nc,cc,c⟩ w h ok.moves.1
 simp only[Bk.val,Bk.ZW,Bk.cells]
 have Hh:=hid h
 clear h ok hcap
 gi_enter func33,ntmps33
 gi_wp2_with (gi_at_call 69;refine(hC _ (Hh.out.below (bw) |>.more zm)).mono ?_;rintro e w2 ⟨rfl,hb2⟩;obtain⟨hc2,hf2⟩:=fC hb2;have hs2:w.heap.size+1<w2.heap.size:=by have:=hb2.size;simp at this;omega)
 have hW2:Below w.heap.size w w2:=(bw:Below w.heap.size w _).trans (hb2.mono zm)
 have hZ:Whole ((w.alloc (.cells #[int i64 days,int i64 most,.slice gA ng gc,.slice mA nm mc,.slice cA nc cc] 26)).alloc (.cells #[int i64 0,int i64 0,.slice none 0 0,.slice none 0 0,.slice none 0 0,.slice none 0 0] 76)) (w.heap.size+1) 76 #[int i64 0,int i64 0,.slice none 0 0,.slice none 0 0,.slice none 0 0,.slice none 0 0]:=by
  have e:=Whole.new (w.alloc (.cells #[int i64 days,int i64 most,.slice gA ng gc,.slice mA nm mc,.slice cA nc cc] 26)) 76 #[int i64 0,int i64 0,.slice none 0 0,.slice none 0 0,.slice none 0 0,.slice none 0 0]
  rwa[show(w.alloc (.cells #[int i64 days,int i64 most,.slice gA ng gc,.slice mA nm mc,.slice cA nc cc] 26)).heap.size=w.heap.size+1 by simp] at e
 have hZ2:Hid (Whole w2 (w.heap.size+1) 76 #[int i64 0,int i64 0,.slice none 0 0,.slice none 0 0,.slice none 0 0,.slice none 0 0]):=hid (hZ.below hb2 zs)
 clear hZ
 gi_region_with (gi_at_call 70;refine(hL _ (Hh.out.below (bw) |>.more zm)).mono ?_;rintro e w3 ⟨v,rfl,hown,hb3,AI⟩;obtain⟨A3,c3,rfl⟩:=dY hown;have ho3:=dX (b:=w2.heap.size) hown zs;clear hown;obtain⟨hc3,hf3⟩:=fC hb3;have hs3:w2.heap.size<w3.heap.size:=(by have:=hb3.size;simp at this;omega);have hw3:Below w2.heap.size w2 w3:=(bw:Below w2.heap.size w2 _).trans (hb3.mono zs);have hZ3:=(hZ2.out.below hw3 zo).cell;have Wf:=(hZ2.out.below hw3 zo).thaw)
 all_goals
  gi_wp2
  have hF:=((((((hZ2.out.below hw3 zo).set 0 (int i64 days)).set 1 (int i64 most)).set 2 (.slice gA ng gc)).set 3 (.slice mA nm mc)).set 4 (.slice cA nc cc)).set 5 (.slice A3 (bO ⟨days,most,gA,ng,gc,g,mA,nm,mc,m,cA,nc,cc,c⟩ (2 ^ nm)).length c3)
  have q0:=hF.cell 0
  have q1:=hF.cell 1
  have q2:=hF.cell 2
  have q3:=hF.cell 3
  have q4:=hF.cell 4
  have q5:=hF.cell 5
  clear hZ3 Wf hc3 hf3
  refine bodyPost_ret (v:=.tuple #[.agg #[int i64 days,int i64 most,.slice gA ng gc,.slice mA nm mc,.slice cA nc cc,.slice A3 (bO ⟨days,most,gA,ng,gc,g,mA,nm,mc,m,cA,nc,cc,c⟩ (2 ^ nm)).length c3],int i64 0]) (by simp[results,results33,go_sem,q0,q1,q2,q3,q4,q5]) rfl ⟨A3,c3,rfl,?_,?_,?_⟩
  ·refine dX (base:=w2.heap.size) ?_ zo
   refine jk ?_ hs2 _
   refine jk ?_ hs2 _
   refine jk ?_ hs2 _
   refine jk ?_ hs2 _
   refine jk ?_ hs2 _
   refine jk ?_ hs2 _
   exact ho3
  ·have bg:Below w.heap.size w w3:=hW2.trans (hw3.mono zo)
   refine Below.setCell ?_ (Nat.le_succ _) _
   refine Below.setCell ?_ (Nat.le_succ _) _
   refine Below.setCell ?_ (Nat.le_succ _) _
   refine Below.setCell ?_ (Nat.le_succ _) _
   refine Below.setCell ?_ (Nat.le_succ _) _
   refine Below.setCell ?_ (Nat.le_succ _) _
   exact bg
  ·have hne:∀q,(Value.slice A3 (bO ⟨days,most,gA,ng,gc,g,mA,nm,mc,m,cA,nc,cc,c⟩ (2 ^ nm)).length c3).ownBlock=some q→q≠w.heap.size+1:=fun q hq=>by have:=(dF ho3 hq).1;omega
   exact(((((AI.other hne _).other hne _).other hne _).other hne _).other hne _).other hne _
theorem SB(b:Bk)(w:World)(h:b.At w w.heap.size)(ok:b.Ok)(hcap:b.ng≤b.gc):CallsIn FF 0 prog 33 #[b.val] w (Qv b w):=
 (SA b w h ok hcap).mono fun _ _ ⟨A,p,he,ho,hb,_⟩=>⟨A,p,he,ho,hb⟩
theorem CY(xs:Nat→Int)(A:Option Addr)(n p:Nat)(top:Int)(w:World)(hI:Ints w w.heap.size A n xs)(hn:n≤maxLen)(hx:∀i,i<n→0≤xs i∧xs i≤top):CallsIn FF 0 prog 34 #[.slice A n p,int i64 n,int i64 top] w fun e w'=>e=.returned (int i64 0)∧Below w.heap.size w w':=by
 unfold maxLen at hn
 have HI:=hid hI
 have Hx:=hid hx
 clear hI hx
 gi_enter func34,ntmps34
 gi_wp2
 gi_loopw [15] (fun i wr=>∃k:Nat,k≤n∧i=int i64 k∧wr=w) (fun i _=>n - (intOf i).toNat)
 case atStart=>exact⟨0,Nat.zero_le _,rfl,rfl⟩
 case round=>
  obtain⟨k,hk,rfl,rfl⟩:=hrel
  by_cases hlt:k<n
  ·obtain⟨ad,rfl,-⟩:=HI.out (show 0<n by omega)
   have ck:=Ints.at_ HI.out hlt
   have ik:=hid (bF.2 (Hx.out k hlt))
   gi_wp2_with (gi_at_call 35;refine(bZ _ _ _ _).mono ?_;rintro e w' ⟨he,rfl⟩;rw[ik.out] at he;subst he)
   go_roundw
   case rel=>exact⟨k+1,zo,by go_num,trivial⟩
   case measure=>simp[intOf];omega
  ·gi_wp2
   go_ret
   exact⟨rfl,Below.refl _ _⟩
theorem SX(xs:Nat→Int)(A:Option Addr)(n p M:Nat)(w:World)(hI:Ints w w.heap.size A n xs)(hn:n≤maxLen)(hM:M≤maxLen)(hx:∀i,i<n→0≤xs i∧xs i≤(M:Int) - 1)(hup:∀i,i+1<n→xs i<xs (i+1)):CallsIn FF 0 prog 121 #[.slice A n p,int i64 M] w fun e w'=>e=.returned (int i64 0)∧Below w.heap.size w w':=by
 unfold maxLen at hn hM
 have HI:=hid hI
 have Hx:=hid hx
 have Hu:=hid hup
 clear hI hx hup
 have eM:IntKind.i64.wrap ((M:Int) - 1)=(M:Int) - 1:=IntWalk.i64_in _ zo
 gi_enter func121,ntmps121
 gi_wp2
 gi_loopw [9] (fun i wr=>∃k:Nat,k≤n∧i=int i64 k∧wr=w) (fun i _=>n - (intOf i).toNat)
 case atStart=>exact⟨0,Nat.zero_le _,rfl,rfl⟩
 case round=>
  obtain⟨k,hk,rfl,rfl⟩:=hrel
  by_cases hlt:k<n
  ·obtain⟨ad,rfl,-⟩:=HI.out (show 0<n by omega)
   have ck:=Ints.at_ HI.out hlt
   have ik:=hid (bF.2 (Hx.out k hlt))
   by_cases hk0:0<k
   ·have hd:decide (0<(k:Int))=true:=zm
    have cj:=Ints.at_ HI.out (show k - 1<n by omega)
    have hu:=Hu.out (k - 1) zo
    rw[show k - 1+1=k by omega] at hu
    have hd2:decide (xs k≤xs (k - 1))=false:=decide_eq_false zo
    have e2:0≤(k:Int) - 1:=zo
    have e2':1≤(k:Int):=zo
    have e4:(k:Int) - 1<n:=zo
    have e3:((k:Int) - 1).toNat=k - 1:=zo
    have e1:IntKind.i64.wrap ((k:Int) - 1)=(k:Int) - 1:=IntWalk.i64_in _ zo
    gi_wp2_with (gi_at_call 35;refine(bZ _ _ _ _).mono ?_;rintro e w' ⟨he,rfl⟩;rw[ik.out] at he;subst he)
    all_goals first
     | exact⟨⟨k+1,zo,by go_num,trivial⟩,by simp[intOf];omega⟩
     | (go_roundw
        case rel=>exact⟨k+1,zo,by go_num,trivial⟩
        case measure=>simp[intOf];omega)
   ·have hd:decide (0<(k:Int))=false:=zm
    gi_wp2_with (first|(exact absurd ‹some undef=some (Value.bool _)› (by simp[undef]))|(gi_at_call 35;refine(bZ _ _ _ _).mono ?_;rintro e w' ⟨he,rfl⟩;rw[ik.out] at he;subst he))
    all_goals first
     | exact⟨⟨k+1,zo,by go_num,trivial⟩,by simp[intOf];omega⟩
     | (go_roundw
        case rel=>exact⟨k+1,zo,by go_num,trivial⟩
        case measure=>simp[intOf];omega)
  ·gi_wp2
   go_ret
   exact⟨rfl,Below.refl _ _⟩
def dV(b:Bk)(k:Nat):List Int:=((List.range k).filter fun i=>decide ((b.m i).kind=0)).map fun(n:Nat)=>(n:Int)
theorem DF(b:Bk)(k:Nat):dV b (k+1)=dV b k ++ if (b.m k).kind=0 then[(k:Int)] else[]:=by
 unfold dV
 rw[List.range_succ,List.filter_append,List.map_append]
 by_cases h:(b.m k).kind=0 <;> simp[h]
theorem ug(b:Bk)(k:Nat):(dV b k).length≤k:=by
 unfold dV
 rw[List.length_map]
 exact Nat.le_trans (List.length_filter_le _ _) zs
theorem Wm(b:Bk)(w:World)(h:b.At w w.heap.size)(hm:b.nm≤6):CallsIn FF 0 prog 115 #[b.val] w fun e w'=>∃v,e=.returned v∧w'.ownsRow w.heap.size 3 1 v (dV b b.nm).length ((dV b b.nm).map (int i64))∧Below w.heap.size w w':=by
 obtain⟨days,most,gA,ng,gc,g,mA,nm,mc,m,cA,nc,cc,c⟩:=b
 simp only[Bk.val,Bk.cells]
 simp only at hm
 have Hh:=hid h
 clear h
 obtain⟨i0,hi,hz0,hz1,hz2⟩:=info_parts info3
 have hi0:=hid hi
 clear hi
 gi_enter func115,ntmps115
 gi_wp2
 gi_loopw [3,9] (fun l i wr=>∃k:Nat,k≤nm∧i=int i64 k∧Hid (wr.ownsRow (w.heap.size+1) 3 1 l (dV ⟨days,most,gA,ng,gc,g,mA,nm,mc,m,cA,nc,cc,c⟩ k).length ((dV ⟨days,most,gA,ng,gc,g,mA,nm,mc,m,cA,nc,cc,c⟩ k).map (int i64))∧Below (w.heap.size+1) (w.alloc (.cells #[int i64 days,int i64 most,.slice gA ng gc,.slice mA nm mc,.slice cA nc cc] 74)) wr)) (fun _ i _=>nm - (intOf i).toNat)
 case atStart=>exact⟨0,Nat.zero_le _,rfl,hid ⟨mG _ (w.heap.size+1) 3,Below.refl _ _⟩⟩
 case round=>
  obtain⟨k,hk,rfl,hR⟩:=hrel
  obtain⟨A,n,cp,rfl⟩:=fP hR.out.1
  have hsz:w.heap.size+1≤wr.heap.size:=by have:=hR.out.2.size;simpa using this
  have VF:w.heap.size<wr.heap.size:=hsz
  have hbx:∀o,wr.cell? ⟨w.heap.size,o,none⟩=(w.alloc (.cells #[int i64 days,int i64 most,.slice gA ng gc,.slice mA nm mc,.slice cA nc cc] 74)).cell? ⟨w.heap.size,o,none⟩:=fun o=>hR.out.2.cell (p:=⟨w.heap.size,o,none⟩) zs
  by_cases hlt:k<nm
  ·obtain⟨wo,rfl⟩:∃wo:World,wo=wr:=⟨_,rfl⟩
   have hN:CallsIn FF 0 prog 58 #[.agg #[int i64 days,int i64 most,.slice gA ng gc,.slice mA nm mc,.slice cA nc cc],int i64 k] wo fun e w'=>e=.returned (.bool (decide ((m k).kind=0)))∧Below wo.heap.size wo w':=sK ⟨days,most,gA,ng,gc,g,mA,nm,mc,m,cA,nc,cc,c⟩ k wo ((((Hh.out.alloc (Nat.le_refl _) (.cells #[int i64 days,int i64 most,.slice gA ng gc,.slice mA nm mc,.slice cA nc cc] 74)).more (Nat.le_succ _)).below hR.out.2).more hsz) hlt
   have e4:=DF ⟨days,most,gA,ng,gc,g,mA,nm,mc,m,cA,nc,cc,c⟩ k
   have hle:=ug ⟨days,most,gA,ng,gc,g,mA,nm,mc,m,cA,nc,cc,c⟩ k
   simp only at e4
   by_cases hz:(m k).kind=0
   ·rw[decide_eq_true hz] at hN
    rw[if_pos hz] at e4
    have E4:=hid e4
    clear e4
    gi_wp2_with (first
     | (gi_at_call 58;refine hN.mono ?_;rintro e w3 ⟨rfl,hb3⟩;have HB3:=hid hb3;have Ho:=hid (own_below hR.out.1 hb3);have hs3:=hb3.size;clear hb3)
     | (gi_at_builtin;refine aF rfl rfl rfl fun K5 jf=>?_;refine wp_append_lies _ _ _ _ rfl (w.heap.size+1) 3 i0 _ 1 8 underlying30 hi0.out hz0 hz1 hz2 rfl zo (.slice A n cp) (dV ⟨days,most,gA,ng,gc,g,mA,nm,mc,m,cA,nc,cc,c⟩ k).length _ rfl (aX Ho.out _) ⟨w3.heap.size,0,none⟩ 1 1 [_] rfl rfl (World.news_of_block (heap_alloc_new w3 _)) (by simp[Value.oneCell']) zo zU zo zm (w3.heap.size+1) zs ?_;intro qM oH w5 hown5 aQ ni oI;refine jf _ _ ?_;clear jf K5))
    go_roundw
    case rel=>exact⟨k+1,zo,by go_num,hid ⟨by rw[E4.out,List.length_append,List.map_append];exact hown5,((hR.out.2.trans (HB3.out.mono hsz)).alloc zo _).trans (below_grown aQ zm (fun g hg=>(dF Ho.out hg).1))⟩⟩
    case measure=>simp[intOf];omega
   ·rw[decide_eq_false hz] at hN
    rw[if_neg hz,List.append_nil] at e4
    gi_wp2_with (gi_at_call 58;refine hN.mono ?_;rintro e w3 ⟨rfl,hb3⟩)
    go_roundw
    case rel=>exact⟨k+1,zo,by go_num,hid ⟨by rw[e4];exact own_below hR.out.1 hb3,hR.out.2.trans (hb3.mono hsz)⟩⟩
    case measure=>simp[intOf];omega
  ·obtain rfl:k=nm:=zo
   gi_wp2
   go_ret
   exact⟨_,rfl,dX hR.out.1 (Nat.le_succ _),((Below.refl _ _).alloc (Nat.le_refl _) _).trans (hR.out.2.mono zs)⟩
theorem Nr(xs:Nat→Int)(A:Option Addr)(n p j:Nat)(w:World)(hI:Ints w w.heap.size A n xs)(hn:n≤maxLen)(hj:j<n)(hne:∀i,i<j→xs i≠xs j):CallsIn FF 0 prog 116 #[.slice A n p,int i64 (xs j)] w fun e w'=>e=.returned (int i64 j)∧Below w.heap.size w w':=by
 unfold maxLen at hn
 have HI:=hid hI
 have Hx:=hid hne
 clear hI hne
 obtain⟨x,hx⟩:∃x,x=xs j:=⟨_,rfl⟩
 have HX:=hid hx
 rw[← hx]
 clear hx
 gi_enter func116,ntmps116
 gi_wp2
 gi_loopw [8] (fun i wr=>∃k:Nat,k≤j∧i=int i64 k∧wr=w) (fun i _=>n - (intOf i).toNat)
 case atStart=>exact⟨0,Nat.zero_le _,rfl,rfl⟩
 case round=>
  obtain⟨k,hk,rfl,rfl⟩:=hrel
  have hlt:k<n:=zo
  obtain⟨ad,rfl,-⟩:=HI.out (show 0<n by omega)
  have ck:=Ints.at_ HI.out hlt
  by_cases he:k=j
  ·subst he
   have hq:(x == xs k)=true:=by rw[HX.out];simp
   gi_wp2
   all_goals first
    | (go_ret;exact⟨rfl,Below.refl _ _⟩)
    | (exfalso;have:=HX.out;omega)
  ·have hne:x≠xs k:=by rw[HX.out];exact fun e=>Hx.out k zo e.symm
   have hq:(x == xs k)=false:=by simpa using hne
   gi_wp2
   all_goals first
    | exact⟨⟨k+1,zo,by go_num,trivial⟩,by simp[intOf];omega⟩
    | (go_roundw
       case rel=>exact⟨k+1,zo,by go_num,trivial⟩
       case measure=>simp[intOf];omega)
    | (exfalso;omega)
structure Ht where
 f:Nat→Int
 m:Nat→Int
 lies:Nat
def Ht.cells(h:Ht):Array Value:=#[int i64 (h.f 0),int i64 (h.f 1),int i64 (h.f 2),int i64 (h.m 0),int i64 (h.m 1),int i64 (h.m 2),int i64 (h.m 3),int i64 (h.m 4),int i64 (h.m 5),int i64 h.lies]
def Ht.val(h:Ht):Value:=.agg h.cells
def Ht.FQ(h:Ht)(k:Nat):Bool:=decide (h.lies / 2 ^ k % 2=1)
def Ht.real(h:Ht)(k:Nat):Int:=if h.FQ k then 0 else h.m k
def wI:Array Value:=#[.string {data:=#[99,97,109,101] },.func (.func 130) #[] #[],.string {data:=#[115,111,108,100] },.func (.func 131) #[] #[],.string {data:=#[108,111,115,116] },.func (.func 131) #[] #[],.string {data:=#[103,105,118,101,110] },.func (.func 131) #[] #[],.string {data:=#[98,97,99,107] },.func (.func 130) #[] #[]]
end
section
open Go.RowKit Go.Sort
theorem RY{kd:Int}(h:0≤kd∧kd≤4):∃ (x:ByteArray) (f:Nat),((f=130∧(kd=0∨kd=4))∨(f=131∧¬ (kd=0∨kd=4)))∧∀w:World,(Instr.index 150 (.agg wI) (int i64 kd)).run prog w=.ok (.agg #[.string x,.func (.func f) #[] #[]]) w∧(Instr.field 149 (.agg #[.string x,.func (.func f) #[] #[]]) 1).run prog w=.ok (.func (.func f) #[] #[]) w:=by
 rcases(show kd=0∨kd=1∨kd=2∨kd=3∨kd=4 by omega) with rfl|rfl|rfl|rfl|rfl
 ·exact⟨{data:=#[99,97,109,101] },_,.inl ⟨rfl,zD⟩,fun _=>⟨zk,zk⟩⟩
 ·exact⟨{data:=#[115,111,108,100] },_,.inr ⟨rfl,zD⟩,fun _=>⟨zk,zk⟩⟩
 ·exact⟨{data:=#[108,111,115,116] },_,.inr ⟨rfl,zD⟩,fun _=>⟨zk,zk⟩⟩
 ·exact⟨{data:=#[103,105,118,101,110] },_,.inr ⟨rfl,zD⟩,fun _=>⟨zk,zk⟩⟩
 ·exact⟨{data:=#[98,97,99,107] },_,.inl ⟨rfl,zD⟩,fun _=>⟨zk,zk⟩⟩
def lV(s:Nat→Int):Value:=.agg #[int i64 (s 0),int i64 (s 1),int i64 (s 2)]
def Yv(b:Bk)(h:Ht)(k:Nat):Int:=if (b.m k).kind=0∨(b.m k).kind=4 then h.real k else - h.real k
def yA(b:Bk)(s:Nat→Int)(h:Ht)(k:Nat)(g:Nat):Int:=if (b.m k).good=(g:Int) then s g+Yv b h k else s g
end
end Go.Proofs.YthaelabgfnnebaaGreat
namespace Go.Proofs.YthaelabgfnnebaaGreat.W
open Go.RowKit
theorem og(h:Ht)(k:Nat)(w:World)(hl:h.lies<64)(hk:k<6):CallsIn SF 0 prog 61 #[h.val,int i64 k] w fun e w'=>e=.returned (.bool (h.FQ k))∧Below w.heap.size w w':=by
 obtain⟨f,m,lies⟩:=h
 simp only at hl
 simp only[Ht.val,Ht.cells,Ht.FQ]
 have e1:(lies:Int) / 2 ^ k=((lies / 2 ^ k:Nat):Int):=by push_cast;rfl
 have hle:lies / 2 ^ k≤lies:=Nat.div_le_self _ _
 have c2:bits BinOp.and IntKind.i64 ((lies:Int) / 2 ^ k) 1=((lies / 2 ^ k % 2:Nat):Int):=by rw[e1];exact and_one _ zo
 have c3:(bits BinOp.and IntKind.i64 ((lies:Int) / 2 ^ k) 1 == 1)=decide (lies / 2 ^ k % 2=1):=by
  rw[c2]
  by_cases h:lies / 2 ^ k % 2=1
  ·rw[h];rfl
  ·rw[decide_eq_false h];exact beq_eq_false_iff_ne.2 (fun e=>h (by exact_mod_cast e))
 clear c2 e1 hle
 have em:min k 64=k:=Nat.min_eq_left zo
 have C3:=hid c3
 clear c3
 gi_enter func61,ntmps61
 gi_wp2
 all_goals (go_ret;refine⟨?_,bw⟩;first|exact congrArg Ending.returned (congrArg Value.bool C3.out)|(rw[← C3.out,← em];simp)|trace_state)
theorem nK(h:Ht)(k:Nat)(w:World)(hl:h.lies<64)(hk:k<6):CallsIn SF 0 prog 57 #[h.val,int i64 k] w fun e w'=>e=.returned (int i64 (h.real k))∧Below w.heap.size w w':=by
 obtain⟨f,m,lies⟩:=h
 have hF:∀w,CallsIn SF 0 prog 61 #[.agg #[int i64 (f 0),int i64 (f 1),int i64 (f 2),int i64 (m 0),int i64 (m 1),int i64 (m 2),int i64 (m 3),int i64 (m 4),int i64 (m 5),int i64 lies],int i64 k] w fun e w'=>e=.returned (.bool ((⟨f,m,lies⟩:Ht).FQ k))∧Below w.heap.size w w':=fun w=>og ⟨f,m,lies⟩ k w hl hk
 simp only[Ht.val,Ht.cells,Ht.real]
 obtain⟨bb,hb⟩:∃bb,bb=(⟨f,m,lies⟩:Ht).FQ k:=⟨_,rfl⟩
 rw[← hb] at hF⊢
 clear hb
 cases bb
 all_goals
  rcases(show k=0∨k=1∨k=2∨k=3∨k=4∨k=5 by omega) with rfl|rfl|rfl|rfl|rfl|rfl
 all_goals
  gi_enter func57,ntmps57
  gi_wp2_with (gi_at_call 61;refine(hF _).mono ?_;rintro e w2 ⟨rfl,hb2⟩;obtain⟨hc2,hf2⟩:=fC hb2;have hs2:w.heap.size<w2.heap.size:=by have:=hb2.size;simp at this;omega)
  go_ret
  exact⟨rfl,(bw:Below w.heap.size w _).trans (hb2.mono zs)⟩
end Go.Proofs.YthaelabgfnnebaaGreat.W
namespace Go.Proofs.YthaelabgfnnebaaGreat
open Go.RowKit
theorem og(h:Ht)(k:Nat)(w:World)(hl:h.lies<64)(hk:k<6):CallsIn FF 0 prog 61 #[h.val,int i64 k] w fun e w'=>e=.returned (.bool (h.FQ k))∧Below w.heap.size w w':=
 CallsIn.wider (W.og h k w hl hk)
theorem nK(h:Ht)(k:Nat)(w:World)(hl:h.lies<64)(hk:k<6):CallsIn FF 0 prog 57 #[h.val,int i64 k] w fun e w'=>e=.returned (int i64 (h.real k))∧Below w.heap.size w w':=
 CallsIn.wider (W.nK h k w hl hk)
end Go.Proofs.YthaelabgfnnebaaGreat
namespace Go.Proofs.YthaelabgfnnebaaGreat.W
section
open Go.RowKit
theorem VQ(w:World):CallsIn SF 0 prog 106 #[] w fun e w'=>e=.returned (.agg wI)∧Below w.heap.size w w':=by
 gi_enter func106,ntmps106
 gi_wp2
 refine bodyPost_ret (v:=.agg wI) (by simp[results,results106,go_sem,wI]) rfl ⟨rfl,?_⟩
 exact(Below.refl _ _).alloc (Nat.le_refl _) _
end
end Go.Proofs.YthaelabgfnnebaaGreat.W
