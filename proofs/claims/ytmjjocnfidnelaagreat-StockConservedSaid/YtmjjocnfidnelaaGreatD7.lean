/- TH1 WKc EXi AL CD HG HJ CL CS -/
import Derived.Test.YtmjjocnfidnelaaGreatD6
set_option maxRecDepth 100000
set_option maxHeartbeats 16000000
set_option linter.unusedVariables false
set_option linter.unusedSectionVars false
open Go.IntKind(i64)
open Go.Lib(hid)
open Go.Proofs.Tryz
open Go.Value(int)
namespace Go.Proofs.YtmjjocnfidnelaaGreat
section
open Go Go.Conc Go.ConcN Go.cZ Go.Conc.Lib Go.aQ Go.RowKit Go.Maps
attribute [local go_sem] Oper.semAt_some
variable[Inhabited aZ]
theorem MW{ρ:Operand→Value}{o:Oper}{x:Operand}{c:Nat}(hop:o.op=.recv 158 x true)(hx:ρ x=.chan (some c))(w:World):(execOp ρ o).run prog w=.ok (.comm #[rcase c (int i64 0)] true (.recv true)) w:=by
 have hz:=nA w
 unfold execOp
 rw[hop]
 simp[Sem.run_bind,run_underlying underlying158,hz,hx,Result.andThen,rcase]
def r13:Array Oper:=#[{dst:=some 22,op:=.recv 158 (.tmp 21) true,type:=0,pos:=sQ19,after:=#[],guard:=none },{dst:=some 23,op:=.extract (.tmp 22) 1,type:=4,pos:=sQ19,after:=#[{on:=0,ground:=.data }],guard:=none }]
section
variable{Q:Exit→Act→World→Prop}{a:Act}{w:World}{c cap s r:Nat}{buf:Array Value}{closed:Bool}
theorem ZW{v:Value}{b:Bool}(hs:23<a.tmps.size)(h:Q .normal ((a.put (some 22) (.tuple #[v,.bool b])).put (some 23) (.bool b)) w):wpOpsIn FF 0 prog r13 Q [1] (a.put (some 22) (.tuple #[v,.bool b])) w:=by
 have h22:22<a.tmps.size:=zo
 simp only[wpOpsIn,r13]
 simp[Region.wanted,Oper.wpIn,Oper.about,Oper.semAt,execOp,h22,Instr.extract,go_sem,Oper.uponIn]
 exact h
theorem yw(hs:a.tmps.size=32)(hx:a.eval (.tmp 21)=.chan (some c))(hc:w.heap[c]? =some (.chan cap buf closed s r false))(hsome:0<buf.size)
 (h:Q .normal ((a.put (some 22) (.tuple #[buf.getD 0 undef,.bool true])).put (some 23) (.bool true)) (w.setChan c cap (buf.extract 1 buf.size) closed s (r+1) false)):(Code.region 13 r13 false).wpIn FF 0 prog Q a w:=
 BG (o:=r13[0]) rfl rfl rfl (rest:=[1]) rfl (MW rfl hx w) hc hsome (ZW zo h)
theorem Hz(hs:a.tmps.size=32)(hx:a.eval (.tmp 21)=.chan (some c))(hc:w.heap[c]? =some (.chan cap #[] true s r false))
 (h:Q .normal ((a.put (some 22) (.tuple #[int i64 0,.bool false])).put (some 23) (.bool false)) w):(Code.region 13 r13 false).wpIn FF 0 prog Q a w:=
 Aq (o:=r13[0]) rfl rfl rfl (rest:=[1]) rfl (MW rfl hx w) hc (ZW zo h)
end
theorem UA{ss:List Int}(h:ss.Perm [2,3]):(ss.mergeSort fun x y=>decide (x≤y))=[2,3]:=by
 have h1:(ss.mergeSort fun x y=>decide (x≤y)).Perm [2,3]:=(List.mergeSort_perm _ _).trans h
 have h2:(ss.mergeSort fun x y=>decide (x≤y)).Pairwise fun x y=>decide (x≤y)=true:=List.pairwise_mergeSort (fun a b c=>by simp only[decide_eq_true_eq];omega) (fun a b=>by simp only[Bool.or_eq_true,decide_eq_true_eq];omega) ss
 have h3:([2,3]:List Int).Pairwise fun x y=>decide (x≤y)=true:=zD
 exact h1.eq_of_pairwise (fun a b _ _ h1 h2=>by simp only[decide_eq_true_eq] at h1 h2;omega) h2 h3
theorem Ui{l:List Value}(h:l.Perm [int i64 2,int i64 3]):∃a b:Int,l=[int i64 a,int i64 b]∧[a,b].mergeSort (fun x y=>decide (x≤y))=[2,3]:=by
 have hl:=h.length_eq
 match l,hl with
 | [x,y],_=>
   have hn:[x,y].Nodup:=h.nodup_iff.2 zs
   have hx:x∈[int i64 2,int i64 3]:=h.mem_iff.1 zs
   have hy:y∈[int i64 2,int i64 3]:=h.mem_iff.1 zs
   simp at hx hy hn
   rcases hx with rfl|rfl <;> rcases hy with rfl|rfl
   ·exact absurd rfl hn
   ·exact⟨2,3,rfl,UA (.refl _)⟩
   ·exact⟨3,2,rfl,UA (.swap _ _ _)⟩
   ·exact absurd rfl hn
theorem vC(w:World)(c cap:Nat)(buf:Array Value)(cl:Bool)(s r:Nat)(tm:Bool)(i:Nat)(h:i≠c):(w.setChan c cap buf cl s r tm).heap[i]? =w.heap[i]?:=by
 show(Array.setIfInBounds w.heap _ _)[i]? =_
 rw[Array.getElem?_setIfInBounds_ne (fun e=>h e.symm)]
theorem mU(w:World)(c cap:Nat)(buf:Array Value)(cl:Bool)(s r:Nat)(tm:Bool):(w.setChan c cap buf cl s r tm).heap.size=w.heap.size:=by simp[World.setChan]
theorem qb{w:World}{n c:Nat}(cap:Nat)(buf:Array Value)(cl:Bool)(s r:Nat)(tm:Bool)(hn:n≤c):Below n w (w.setChan c cap buf cl s r tm):=
 ⟨rfl,rfl,rfl,by rw[mU];exact Nat.le_refl _,fun b hb=>vC _ _ _ _ _ _ _ _ _ zo⟩
def wO(w:World)(x:Value)(w':World):Prop:=(∃τ,Below w.heap.size (on w τ) w')∧w'.ownsRow w.heap.size 3 1 x 2 [int i64 2,int i64 3]
theorem Ll(cb:Nat)(bit:Nat→Bool)(w:World)(hbit:(List.range 4).filter bit=[2,3])(x7 x14 x15 x16 x17 x18:Value)(v:World)(hb:Behind 4 cb w.heap.size bit w v)(σ:Tape):
 mh.wpIn FF 0 prog (bodyPost prog Tryz.f86 (Ez (wO w))) (Act.put ⟨Qj 4 (fC cb) w.heap.size 4 x7 x14 x15 x16 x17 x18,[]⟩ (some 19) (.tuple #[])) (on v σ):=by
 obtain⟨hsz,hold,iW,⟨buf,s,q,hch,hperm⟩,Gm,hos,hout⟩:=hb
 rw[hbit] at hperm
 obtain⟨Qp,Z3⟩:∃Qp,Qp=bodyPost prog Tryz.f86 (Ez (wO w)):=⟨_,rfl⟩
 rw[← Z3]
 simp only[mh,Vn,Tryz.f86,Qj,Act.put,List.setIfInBounds_toArray,List.set_cons_succ,List.set_cons_zero,fC,pt]
 have cN2:(on v σ).cell? ⟨w.heap.size+2,0,none⟩=some (.chan (some (w.heap.size+1))):=by
  unfold World.cell?
  simp[on,Gm]
 have hcl:=fun ats ty=>run_close_open (P:=prog) (w:=on v σ) ats ty hch
 obtain⟨W1,hW1⟩:∃W1,W1=(on v σ).setChan (w.heap.size+1) 4 buf true s q false:=⟨_,rfl⟩
 have Jn:∀ats ty,(Builtin.close_ ats ty #[.chan (some (w.heap.size+1))]).run prog (on v σ)=.ok (.tuple #[]) W1:=fun ats ty=>by rw[hW1];exact hcl ats ty
 have c1:W1.heap[w.heap.size+1]? =some (.chan 4 buf true s q false):=by rw[hW1];exact heap_setChan _ _ _ _ _ _ _ _ (by show w.heap.size+1<v.heap.size;omega)
 have oth:∀i,i≠w.heap.size+1→W1.heap[i]? =v.heap[i]?:=fun i hi=>by
  rw[hW1]
  show(Array.setIfInBounds v.heap _ _)[i]? =_
  rw[Array.getElem?_setIfInBounds_ne (fun e=>hi e.symm)]
 have hs1:W1.heap.size=v.heap.size:=by rw[hW1];simp[World.setChan,on]
 have B1:Below w.heap.size (on w σ) W1:=⟨by rw[hW1];exact hos,by rw[hW1];rfl,by rw[hW1];exact hout,by rw[hs1];show w.heap.size≤_;omega,fun b hb=>(oth b zo).trans (hold b hb)⟩
 have cM2:W1.cell? ⟨w.heap.size+2,0,none⟩=some (.chan (some (w.heap.size+1))):=by
  unfold World.cell?
  simp[oth (w.heap.size+2) zo,Gm]
 clear hcl hW1
 obtain⟨x0,y0,hbuf,hsrt⟩:=Ui hperm
 have rB:buf=#[int i64 x0,int i64 y0]:=by rw[← Array.toList_inj];exact hbuf
 subst rB
 obtain⟨i0,hi,hz0,hz1,hz2⟩:=info_parts info3
 have hi0:=hid hi
 clear hi hbuf hperm
 gi_wp2
 refine wpIn_loop_rounds 3 ?_
 rw[roundsIn_succ]
 refine wpIn_seq ?_
 refine yw rfl rfl c1 zs ?_
 obtain⟨W2,hW2⟩:∃W2,W2=W1.setChan (w.heap.size+1) 4 #[int i64 y0] true s (q+1) false:=⟨_,rfl⟩
 have c2:W2.heap[w.heap.size+1]? =some (.chan 4 #[int i64 y0] true s (q+1) false):=by rw[hW2];exact heap_setChan _ _ _ _ _ _ _ _ zo
 have hs2:W2.heap.size=W1.heap.size:=by rw[hW2];exact mU _ _ _ _ _ _ _ _
 have B2:Hid (Below w.heap.size (on w σ) W2):=hid (B1.trans (by rw[hW2];exact qb _ _ _ _ _ _ zo))
 show Exit.then _ _ .normal _ (W1.setChan (w.heap.size+1) 4 #[int i64 y0] true s (q+1) false)
 rw[← hW2]
 simp only[Act.put,List.setIfInBounds_toArray,List.set_cons_succ,List.set_cons_zero,Exit.then]
 have IW:=hid hs1
 have HS2:=hid hs2
 have ZJ:=hid hsz
 clear hW2 c1 cM2 cN2 Jn hch hs1 hs2 hsz
 gi_wp2_with (gi_at_builtin;refine aF rfl rfl rfl fun K5 jK=>?_;refine wp_append_lies _ _ _ _ rfl W1.heap.size 3 i0 _ 1 8 underlying30 hi0.out hz0 hz1 hz2 rfl zo (.slice none 0 0) 0 [] rfl ⟨rfl,.inl ⟨rfl,rfl⟩⟩ ⟨W2.heap.size,0,none⟩ 1 1 [_] rfl rfl (World.news_of_block (heap_alloc_new W2 _)) (by simp[Value.oneCell']) zo zu zo (by have:=HS2.out;simp;omega) (W2.heap.size+1) zs ?_;intro rV qJ w10 hown5 aU nI qO;refine jK _ _ ?_;clear jK K5)
 have b10:Below W2.heap.size W2 w10:=((Below.refl _ W2).alloc (Nat.le_refl _) _).trans (below_grown aU zs (fun g hg=>by cases hg))
 have c10:w10.heap[w.heap.size+1]? =some (.chan 4 #[int i64 y0] true s (q+1) false):=(b10.block _ (by have:=IW.out;have:=HS2.out;have:=ZJ.out;omega)).trans c2
 have Ro:=hid hown5
 have aaA:=(bG hown5 (g:=rV) rfl).1
 have B10:Hid (Below w.heap.size (on w σ) w10):=hid (B2.out.trans (b10.mono (by have:=IW.out;have:=HS2.out;have:=ZJ.out;omega)))
 have pn:Hid (W2.heap.size≤w10.heap.size):=hid b10.size
 clear hown5 aU nI qO b10 c2
 rw[roundsIn_succ]
 refine wpIn_seq ?_
 refine yw rfl rfl c10 zs ?_
 obtain⟨W3,hW3⟩:∃W3,W3=w10.setChan (w.heap.size+1) 4 #[] true s (q+1+1) false:=⟨_,rfl⟩
 have S3:Hid (W3.heap.size=w10.heap.size):=hid (by rw[hW3];exact mU _ _ _ _ _ _ _ _)
 have c3:W3.heap[w.heap.size+1]? =some (.chan 4 #[] true s (q+1+1) false):=by rw[hW3];exact heap_setChan _ _ _ _ _ _ _ _ (by have:=pn.out;have:=IW.out;have:=HS2.out;have:=ZJ.out;omega)
 have B3:Hid (Below w.heap.size (on w σ) W3):=hid (B10.out.trans (by rw[hW3];exact qb _ _ _ _ _ _ zo))
 have lP:=hid (jR Ro.out (w':=W3) (fun g hg hl=>by rw[hW3];exact vC _ _ _ _ _ _ _ _ _ (by have h1:=(bG Ro.out hg).1;have:=IW.out;have:=ZJ.out;omega)))
 show Exit.then _ _ .normal _ (w10.setChan (w.heap.size+1) 4 #[] true s (q+1+1) false)
 rw[← hW3]
 simp only[Act.put,List.setIfInBounds_toArray,List.set_cons_succ,List.set_cons_zero,Exit.then]
 clear hW3 c10 Ro B10
 gi_wp2_with (gi_at_builtin;refine aF rfl rfl rfl fun K5 jK=>?_;refine wp_append_lies _ _ _ _ rfl W1.heap.size 3 i0 _ 1 8 underlying30 hi0.out hz0 hz1 hz2 rfl zo (.slice (some ⟨rV,0,none⟩) 1 qJ) 1 _ rfl (aL lP.out _) ⟨W3.heap.size,0,none⟩ 1 1 [_] rfl rfl (World.news_of_block (heap_alloc_new W3 _)) (by simp[Value.oneCell']) zo zu zo (by have:=S3.out;have:=pn.out;have:=HS2.out;simp;omega) (W3.heap.size+1) zs ?_;intro qa cap4 w20 hown6 tZ rl sR;refine jK _ _ ?_;clear jK K5)
 have b20:Below W1.heap.size W3 w20:=((Below.refl _ W3).alloc (by have:=S3.out;have:=pn.out;have:=HS2.out;omega) _).trans (below_grown tZ (by have:=S3.out;have:=pn.out;have:=HS2.out;simp;omega) (fun g hg=>by cases hg;omega))
 have c20:w20.heap[w.heap.size+1]? =some (.chan 4 #[] true s (q+1+1) false):=(b20.block _ (by have:=IW.out;have:=ZJ.out;omega)).trans c3
 have ox:=hid hown6
 have B20:Hid (Below w.heap.size (on w σ) w20):=hid (B3.out.trans (b20.mono (by have:=IW.out;have:=ZJ.out;omega)))
 have S20:Hid (W1.heap.size≤w20.heap.size):=hid (by have:=b20.size;have:=S3.out;have:=pn.out;have:=HS2.out;omega)
 clear hown6 tZ rl sR b20 c3
 rw[roundsIn_succ]
 refine wpIn_seq ?_
 refine Hz rfl rfl c20 ?_
 simp only[Act.put,List.setIfInBounds_toArray,List.set_cons_succ,List.set_cons_zero,Exit.then]
 have oR:=hid (ir W1.heap.size (.slice (some ⟨qa,0,none⟩) 2 cap4) [x0,y0] w20 zs zs ox.out)
 clear c20 lP ox
 gi_wp2_with (gi_at_call 108;refine oR.out.mono ?_;rintro e w22 ⟨rfl,hown,hgrow⟩)
 rw[Z3]
 rw[hsrt] at hown
 have b22:Below W1.heap.size w20 w22:=below_grown hgrow S20.out (fun g hg=>by have h1:=(bG hown hg).1;omega)
 exact⟨rfl,_,results_tmp rfl _ _ _,_,rfl,⟨σ,B20.out.trans (b22.mono (by have:=IW.out;have:=ZJ.out;omega))⟩,eG hown (by have:=IW.out;have:=ZJ.out;omega)⟩
theorem enter_at{fn:Func}{c:Code}{f:FuncId}{args:Array Value}(hf:Tryz.prog.funcs[f]? =some fn)(hb:fn.body=some c):Frame.enter prog f args .normal=(base f).at {tmps:=args ++ Array.replicate (fn.ntmps - args.size) undef,defers:=[] } [.code c]:=by
 simp[Frame.enter,Frame.at,hf,hb,base]
theorem Vo(cb:Nat):Frame.enter prog 86 #[int i64 4,fC cb] .normal=kQ 4 cb:=by
 rw[enter_at func86 (c:=uG) rfl]
 simp only[ntmps86,List.size_toArray,List.length_cons,List.length_nil,Nat.reduceAdd,Nat.reduceSub,Array.replicate_succ,Array.replicate_zero,List.push_toArray,List.append_toArray,List.nil_append,List.cons_append]
 rfl
theorem Zn(ac:Act)(cs:List Frame)(v:World)(σ:Tape):((⟨Ae ac,cs,v⟩:dU.Pt).on σ).m=lone ((base 86).atR (ac.put ((pz[0]?).bind (·.dst)) (.tuple #[])) (.inRegion pz [] :: [mh].map Item.code)) cs (on v σ):=rfl
theorem kv:(pz[0]?).bind (·.dst)=some 19:=rfl
theorem Qk(cb:Nat)(bit:Nat→Bool)(w:World)(hpre:LM 4 cb bit w)(hbit:(List.range 4).filter bit=[2,3]):iR 86 #[int i64 4,fC cb] w (wO w):=by
 refine⟨zs,fun cs=>⟨4,cb,cs,w,bit,?_,hpre,fun ac hac v hb σ=>?_⟩⟩
 ·rw[Vo]
  exact .refl _
 ·obtain⟨x7,x14,x15,x16,x17,x18,rfl⟩:=hac
  rw[Zn,kv]
  have h:=Ll cb bit w hbit x7 x14 x15 x16 x17 x18 v hb σ
  refine Cz (ops:=pz) (fn:=Tryz.f86) (R:=wO w) (l:=[mh]) (rest:=[]) ?_ (base 86) cs rfl rfl (by show FF.fn 86;simp) func86
  exact wpIn_mono h (fun e a w h=>by cases e <;> exact h)
end
section
open Go.RowKit
open Go.Sort (grow)
attribute [local go_sem] Oper.semAt_some
theorem NY(b:Bk)(A:Option Addr)(p s Bc:Nat)(w:World)(hc:oV b A w)(ok:b.Ok)(hl:∀s∈au b,fG s)(hs:s<1024)(h4:(aM s 10).length≤4)(hin:∀x∈aM s 10,0≤x∧x<b.nc)(q:∀j,w.cell? ⟨Bc,j,none⟩=(ay b A (au b).length p)[j]?):
 CallsIn SF 0 prog 87 #[int i64 s,.pointer (some ⟨Bc,0,none⟩)] w fun e w'=>(∃A' cc',e=.returned (.bool (aH (jh b s A' cc') (au b)).isEmpty))∧Below w.heap.size w w':=by
 obtain⟨n,hn⟩:∃n,n=(au b).length:=⟨_,rfl⟩
 have HA:=hid fun(w':World) (hb:Below w.heap.size w w')=>Wv b s A n p w' (hc.at_.up hb) hs hin
 have B8:Hid (∀ (A':Option Addr) (cc':Nat) (w':World),Below w.heap.size w w'→Rows w' w'.heap.size 4 A' (aM s 10).length (fun i j=>(R7 b s i).cell j)→(jh b s A' cc').At w' w'.heap.size):=hid fun A' cc' w' hb hr=>
  ⟨(hc.at_.up hb).g,(hc.at_.up hb).m,hr,hc.at_.ng,hc.at_.nm,(Nat.le_trans h4 zu:(aM s 10).length≤maxLen),hc.at_.name⟩
 have HR:=hid fun(w':World) (hb:Below w.heap.size w w')=>(hc.row.below hb).more hb.size
 have HH:=hid fun A' cc' (w':World)=>nQ (p:=SF.fn) (jh b s A' cc') A n p w'
 have HS:=hid fun A' cc' Bc' (w':World) hA hR hb=>KT (jh b s A' cc') (eA b s A' cc' ok h4 hin) (au b) hl (lT b ok) A p Bc' w' hA hR hb
 have HY:=hid fun A' cc' lb (w':World) h=>ZR (p:=SF.fn) 71 lb (aH (jh b s A' cc') (au b)) w' h
 obtain⟨R,hR⟩:∃R:Option Addr→Nat→List Ht,R=fun A' cc'=>aH (jh b s A' cc') (au b):=⟨_,rfl⟩
 have ma:Hid (∀A' cc',aH (jh b s A' cc') (au b)=R A' cc'):=hid fun A' cc'=>by rw[hR]
 have goal:∀ (e:Ending) (w':World),((∃A' cc',e=.returned (.bool (R A' cc').isEmpty))∧Below w.heap.size w w')→(∃A' cc',e=.returned (.bool (aH (jh b s A' cc') (au b)).isEmpty))∧Below w.heap.size w w':=fun e w' ⟨⟨A',cc',h⟩,hb⟩=>⟨⟨A',cc',by rw[ma.out];exact h⟩,hb⟩
 refine CallsIn.mono ?_ goal
 rw[← hn] at q
 clear goal hR hl hs ok hc
 have Hn:=hid hn
 clear hn
 obtain⟨w0,hw0⟩:∃w0,w0=w:=⟨_,rfl⟩
 have q0:w.cell? ⟨Bc,0,none⟩=some (int i64 b.days):=q 0
 have q1:w.cell? ⟨Bc,1,none⟩=some (int i64 b.most):=q 1
 have q2:w.cell? ⟨Bc,2,none⟩=some (.slice b.gA b.ng b.gc):=q 2
 have q3:w.cell? ⟨Bc,3,none⟩=some (.slice b.mA b.nm b.mc):=q 3
 have q4:w.cell? ⟨Bc,4,none⟩=some (.slice b.cA b.nc b.cc):=q 4
 have q5:w.cell? ⟨Bc,5,none⟩=some (.slice A n p):=q 5
 clear q
 simp only[ay] at HA HH
 gi_enter func87,ntmps87
 gi_wp2_with (first
  | (gi_at_call 88;refine(HA.out w (Below.refl _ _)).mono ?_;rintro e w3 ⟨A',cc',rfl,hr3,hb3⟩)
  | (gi_at_call 38;refine(HH.out A' cc' w3).mono ?_;rintro e w4 ⟨rfl,hw4,hb4,-⟩)
  | (gi_at_call 81;refine(HY.out A' cc' _ w4 (HS.out A' cc' _ w4 ((B8.out A' cc' w3 hb3 hr3).up hb4) (HR.out w4 (Below.next hb3 hb4)) (by rw[← Hn.out];exact hw4))).mono ?_;rintro e w5 ⟨rfl,hb5⟩;rw[ma.out]))
 go_ret
 refine⟨⟨A',cc',?_⟩,Below.next (Below.next hb3 hb4) hb5⟩
 simp
def tgC:Array Value:=#[.string ⟨#[116,101,97]⟩,int i64 5,int i64 4,int i64 3,int i64 3,.string ⟨#[114,105,99,101]⟩,int i64 2,int i64 10,int i64 5,int i64 6]
def tmC:Array Value:=#[int i64 0,int i64 0,int i64 2,int i64 4,int i64 4,int i64 1,int i64 0,int i64 3,int i64 2,int i64 3,int i64 2,int i64 1,int i64 4,int i64 0,int i64 1,int i64 0,int i64 1,int i64 5,int i64 10,int i64 10]
def tcC:Array Value:=#[int i64 0,int i64 10,int i64 4,int i64 5,int i64 1,int i64 10,int i64 5,int i64 5]
def VJ(w:World)(G M C:Nat):Prop:=Whole w G 68 tgC∧Whole w M 41 tmC∧Whole w C 88 tcC
theorem VJ.of{w w':World}{G M C:Nat}(h:VJ w G M C)(hk:∀b,b<w.heap.size→w'.heap[b]? =w.heap[b]?):VJ w' G M C:=⟨h.1.of (hk _ h.1.lt),h.2.1.of (hk _ h.2.1.lt),h.2.2.of (hk _ h.2.2.lt)⟩
theorem JM(w:World):CallsIn FF 0 prog 12 #[] w fun e w'=>∃G M C,e=.returned (Tb 1 G M C).val∧(Tb 1 G M C).At w' w'.heap.size∧Below w.heap.size w w'∧VJ w' G M C:=by
 have HT:=hid xd
 gi_enter func12,ntmps12
 gi_wp2_with (first
  | (gi_at_call 23;refine(HT.out 3 3 _).mono ?_;rintro e w1 ⟨rfl,hb1⟩)
  | (gi_at_call 23;refine(HT.out 5 6 _).mono ?_;rintro e w2 ⟨rfl,hb2⟩)
  | (gi_at_call 23;refine(HT.out 4 4 _).mono ?_;rintro e w3 ⟨rfl,hb3⟩)
  | (gi_at_call 23;refine(HT.out 2 3 _).mono ?_;rintro e w4 ⟨rfl,hb4⟩)
  | (gi_at_call 23;refine(HT.out 0 1 _).mono ?_;rintro e w5 ⟨rfl,hb5⟩)
  | (gi_at_call 23;refine(HT.out 10 10 _).mono ?_;rintro e w6 ⟨rfl,hb6⟩)
  | (gi_at_call 23;refine(HT.out 4 5 _).mono ?_;rintro e w7 ⟨rfl,Sz⟩)
  | (gi_at_call 23;refine(HT.out 5 5 _).mono ?_;rintro e w8 ⟨rfl,fj⟩;have k1:=hb1.size;have k2:=hb2.size;have k3:=hb3.size;have k4:=hb4.size;have k5:=hb5.size;have k6:=hb6.size;have k7:=Sz.size;have k8:=fj.size;simp only[World.size_alloc] at k1 k2 k3 k4 k5 k6 k7 k8;have Y1:=(Whole.new w 26 #[int i64 0,int i64 0,.slice none 0 0,.slice none 0 0,.slice none 0 0]).below hb1 zs;have Y2:=Y1.below hb2 Y1.lt;have Y3:=(Y2.alloc (.cells #[.string ⟨#[116,101,97]⟩,int i64 5,int i64 4,int i64 3,int i64 3,.string ⟨#[114,105,99,101]⟩,int i64 2,int i64 10,int i64 5,int i64 6] 68)).below hb3 (Y2.alloc _).lt;have Y4:=Y3.below hb4 Y3.lt;have Y5:=Y4.below hb5 Y4.lt;have Y6:=Y5.below hb6 Y5.lt;have Y7:=(Y6.alloc (.cells #[int i64 0,int i64 0,int i64 2,int i64 4,int i64 4,int i64 1,int i64 0,int i64 3,int i64 2,int i64 3,int i64 2,int i64 1,int i64 4,int i64 0,int i64 1,int i64 0,int i64 1,int i64 5,int i64 10,int i64 10] 41)).below Sz (Y6.alloc _).lt;have Y8:=Y7.below fj Y7.lt;have Y9:=Y8.alloc (.cells #[int i64 0,int i64 10,int i64 4,int i64 5,int i64 1,int i64 10,int i64 5,int i64 5] 88);have yth:=Y9.thaw;have y0:(w8.alloc (.cells #[int i64 0,int i64 10,int i64 4,int i64 5,int i64 1,int i64 10,int i64 5,int i64 5] 88)).cell? ⟨w.heap.size,0,none⟩=some (int i64 0):=Y9.cell 0;have y1:(w8.alloc (.cells #[int i64 0,int i64 10,int i64 4,int i64 5,int i64 1,int i64 10,int i64 5,int i64 5] 88)).cell? ⟨w.heap.size,1,none⟩=some (int i64 0):=Y9.cell 1;have y2:(w8.alloc (.cells #[int i64 0,int i64 10,int i64 4,int i64 5,int i64 1,int i64 10,int i64 5,int i64 5] 88)).cell? ⟨w.heap.size,2,none⟩=some (.slice none 0 0):=Y9.cell 2;have y3:(w8.alloc (.cells #[int i64 0,int i64 10,int i64 4,int i64 5,int i64 1,int i64 10,int i64 5,int i64 5] 88)).cell? ⟨w.heap.size,3,none⟩=some (.slice none 0 0):=Y9.cell 3;have y4:(w8.alloc (.cells #[int i64 0,int i64 10,int i64 4,int i64 5,int i64 1,int i64 10,int i64 5,int i64 5] 88)).cell? ⟨w.heap.size,4,none⟩=some (.slice none 0 0):=Y9.cell 4))
 have g3:=(Whole.new w2 68 #[.string ⟨#[116,101,97]⟩,int i64 5,int i64 4,int i64 3,int i64 3,.string ⟨#[114,105,99,101]⟩,int i64 2,int i64 10,int i64 5,int i64 6]).below hb3 zs
 have g4:=g3.below hb4 g3.lt
 have g5:=g4.below hb5 g4.lt
 have g6:=g5.below hb6 g5.lt
 have g7:=(g6.alloc (.cells #[int i64 0,int i64 0,int i64 2,int i64 4,int i64 4,int i64 1,int i64 0,int i64 3,int i64 2,int i64 3,int i64 2,int i64 1,int i64 4,int i64 0,int i64 1,int i64 0,int i64 1,int i64 5,int i64 10,int i64 10] 41)).below Sz (g6.alloc _).lt
 have g8:=(g7.below fj g7.lt).alloc (.cells #[int i64 0,int i64 10,int i64 4,int i64 5,int i64 1,int i64 10,int i64 5,int i64 5] 88)
 have m7:=(Whole.new w6 41 #[int i64 0,int i64 0,int i64 2,int i64 4,int i64 4,int i64 1,int i64 0,int i64 3,int i64 2,int i64 3,int i64 2,int i64 1,int i64 4,int i64 0,int i64 1,int i64 0,int i64 1,int i64 5,int i64 10,int i64 10]).below Sz zs
 have m8:=(m7.below fj m7.lt).alloc (.cells #[int i64 0,int i64 10,int i64 4,int i64 5,int i64 1,int i64 10,int i64 5,int i64 5] 88)
 have c8:=Whole.new w8 88 #[int i64 0,int i64 10,int i64 4,int i64 5,int i64 1,int i64 10,int i64 5,int i64 5]
 have U:=(((((Y8.alloc (.cells #[int i64 0,int i64 10,int i64 4,int i64 5,int i64 1,int i64 10,int i64 5,int i64 5] 88)).set 0 (int i64 10)).set 1 (int i64 1)).set 2 (.slice (some ⟨w2.heap.size,0,none⟩) 2 2)).set 3 (.slice (some ⟨w6.heap.size,0,none⟩) 4 4)).set 4 (.slice (some ⟨w8.heap.size,0,none⟩) 2 2)
 have u0:=U.cell 0
 have u1:=U.cell 1
 have u2:=U.cell 2
 have u3:=U.cell 3
 have u4:=U.cell 4
 have HB:Below w.heap.size w (w8.alloc (.cells #[int i64 0,int i64 10,int i64 4,int i64 5,int i64 1,int i64 10,int i64 5,int i64 5] 88)):=Below.al (Below.next (Below.next (Below.al (Below.next (Below.next (Below.next (Below.next (Below.al (Below.next (Below.next (Below.al (Below.refl _ w) _) hb1) hb2) _) hb3) hb4) hb5) hb6) _) Sz) fj) _
 refine bodyPost_ret (v:=.agg #[int i64 10,int i64 1,.slice (some ⟨w2.heap.size,0,none⟩) 2 2,.slice (some ⟨w6.heap.size,0,none⟩) 4 4,.slice (some ⟨w8.heap.size,0,none⟩) 2 2]) (by simp[results,results12,go_sem,u0,u1,u2,u3,u4]) rfl ⟨w2.heap.size,w6.heap.size,w8.heap.size,rfl,⟨?_,?_,?_,(by decide:2≤maxLen),(by decide:4≤maxLen),(by decide:2≤maxLen),fun i _=>?_⟩,?_,?_,?_,?_⟩
 ·exact aR ((((((g8).other (p:=⟨w.heap.size,0,none⟩) zn (int i64 10)).other (p:=⟨w.heap.size,1,none⟩) zn (int i64 1)).other (p:=⟨w.heap.size,2,none⟩) zn (.slice (some ⟨w2.heap.size,0,none⟩) 2 2)).other (p:=⟨w.heap.size,3,none⟩) zn (.slice (some ⟨w6.heap.size,0,none⟩) 4 4)).other (p:=⟨w.heap.size,4,none⟩) zn (.slice (some ⟨w8.heap.size,0,none⟩) 2 2)) fun i j hi hj=>(by have hi:i<2:=hi;have hj:j<5:=hj;rcases(show i=0∨i=1 by omega) with rfl|rfl <;> rcases(show j=0∨j=1∨j=2∨j=3∨j=4 by omega) with rfl|rfl|rfl|rfl|rfl <;> rfl)
 ·exact aR ((((((m8).other (p:=⟨w.heap.size,0,none⟩) zn (int i64 10)).other (p:=⟨w.heap.size,1,none⟩) zn (int i64 1)).other (p:=⟨w.heap.size,2,none⟩) zn (.slice (some ⟨w2.heap.size,0,none⟩) 2 2)).other (p:=⟨w.heap.size,3,none⟩) zn (.slice (some ⟨w6.heap.size,0,none⟩) 4 4)).other (p:=⟨w.heap.size,4,none⟩) zn (.slice (some ⟨w8.heap.size,0,none⟩) 2 2)) fun i j hi hj=>(by have hi:i<4:=hi;have hj:j<5:=hj;rcases(show i=0∨i=1∨i=2∨i=3 by omega) with rfl|rfl|rfl|rfl <;> rcases(show j=0∨j=1∨j=2∨j=3∨j=4 by omega) with rfl|rfl|rfl|rfl|rfl <;> rfl)
 ·exact aR ((((((c8).other (p:=⟨w.heap.size,0,none⟩) zn (int i64 10)).other (p:=⟨w.heap.size,1,none⟩) zn (int i64 1)).other (p:=⟨w.heap.size,2,none⟩) zn (.slice (some ⟨w2.heap.size,0,none⟩) 2 2)).other (p:=⟨w.heap.size,3,none⟩) zn (.slice (some ⟨w6.heap.size,0,none⟩) 4 4)).other (p:=⟨w.heap.size,4,none⟩) zn (.slice (some ⟨w8.heap.size,0,none⟩) 2 2)) fun i j hi hj=>(by have hi:i<2:=hi;have hj:j<4:=hj;rcases(show i=0∨i=1 by omega) with rfl|rfl <;> rcases(show j=0∨j=1∨j=2∨j=3 by omega) with rfl|rfl|rfl|rfl <;> rfl)
 ·show((tg i).name).size≤maxLen
  rcases i with _|i
  ·exact(by decide:3≤maxLen)
  ·exact(by decide:4≤maxLen)
 ·exact((((HB.setCell (p:=⟨w.heap.size,0,none⟩) zs _).setCell zs _).setCell zs _).setCell zs _).setCell zs _
 ·exact((((((g8).other (p:=⟨w.heap.size,0,none⟩) zn (int i64 10)).other (p:=⟨w.heap.size,1,none⟩) zn (int i64 1)).other (p:=⟨w.heap.size,2,none⟩) zn (.slice (some ⟨w2.heap.size,0,none⟩) 2 2)).other (p:=⟨w.heap.size,3,none⟩) zn (.slice (some ⟨w6.heap.size,0,none⟩) 4 4)).other (p:=⟨w.heap.size,4,none⟩) zn (.slice (some ⟨w8.heap.size,0,none⟩) 2 2))
 ·exact((((((m8).other (p:=⟨w.heap.size,0,none⟩) zn (int i64 10)).other (p:=⟨w.heap.size,1,none⟩) zn (int i64 1)).other (p:=⟨w.heap.size,2,none⟩) zn (.slice (some ⟨w2.heap.size,0,none⟩) 2 2)).other (p:=⟨w.heap.size,3,none⟩) zn (.slice (some ⟨w6.heap.size,0,none⟩) 4 4)).other (p:=⟨w.heap.size,4,none⟩) zn (.slice (some ⟨w8.heap.size,0,none⟩) 2 2))
 ·exact((((((c8).other (p:=⟨w.heap.size,0,none⟩) zn (int i64 10)).other (p:=⟨w.heap.size,1,none⟩) zn (int i64 1)).other (p:=⟨w.heap.size,2,none⟩) zn (.slice (some ⟨w2.heap.size,0,none⟩) 2 2)).other (p:=⟨w.heap.size,3,none⟩) zn (.slice (some ⟨w6.heap.size,0,none⟩) 4 4)).other (p:=⟨w.heap.size,4,none⟩) zn (.slice (some ⟨w8.heap.size,0,none⟩) 2 2))
end
section
open Go.RowKit
theorem XU(b:Bk)(w:World)(h:b.At w w.heap.size)(ok:b.Ok)(hcap:b.ng≤b.gc):CallsIn FF 0 prog 36 #[b.val] w fun e w'=>∃A p,e=.returned (.tuple #[.agg (ay b A (au b).length p),int i64 0])∧oV b A w'∧Below w.heap.size w w'∧∀ad,A=some ad→0<(au b).length→w.heap.size≤ad.block∧ad=⟨ad.block,0,none⟩∧∃c e,w'.heap[ad.block]? =some (.cells c e (0,0))∧∀x∈c.toList,∃n,x=int i64 n:=by
 refine(Ud b w h ok hcap).mono ?_
 rintro e w' ⟨A,p,rfl,hrow,hb,hib⟩
 have hl:(bP b (2 ^ b.nm)).length=(au b).length:=by rw[rZ,List.length_map]
 refine⟨A,p,by rw[hl,R6],⟨h.up hb,?_⟩,hb,fun ad hA hn=>by
  subst hA
  rcases hrow.2 with⟨h0,_⟩|⟨g',cap,cur,h0,h1,_⟩
  ·injection h0 with h0 _ _;cases h0
  ·injection h0 with h0 _ _;cases h0;exact⟨h1,rfl,hib g' rfl⟩⟩
 have:=aT hrow
 rw[hl] at this
 unfold Ints at this
 intro hn
 obtain⟨ad,e,hb,hc⟩:=this hn
 refine⟨ad,e,hb,fun i j hi hj=>(hc i j hi hj).trans ?_⟩
 rw[rZ]
 congr 2
 simp[List.getD_eq_getElem?_getD,List.getElem?_map,List.getElem?_eq_getElem hi]
end
section
open Go Go.Conc Go.ConcN Go.cZ Go.Conc.Lib Go.aQ Go.RowKit
variable[Inhabited aZ]
theorem FI(D:Nat→Prop)(w:World)(σ:Tape)(p:Addr):(on (wh D w) σ).cell? p=w.cell? p:=by
 unfold World.cell?
 show(match (wh D w).heap[p.block]? with|some (.cells c _ _)=>if p.spot.isSome then none else c[p.off]? |_=>none)=_
 by_cases h:D p.block
 ·cases ho:w.heap[p.block]? with
  | none=>rw[show(wh D w).heap[p.block]? =none by simp[wh,Array.getElem?_mapIdx,ho]]
  | some o=>
    rw[show(wh D w).heap[p.block]? =some (fa o) by simp[wh,Array.getElem?_mapIdx,ho,h]]
    cases o <;> rfl
 ·rw[Xh h]
  cases w.heap[p.block]? with
  | none=>rfl
  | some o=>cases o <;> rfl
theorem sI{D:Nat→Prop}{w:World}{σ:Tape}{B size n:Nat}{A:Option Addr}{f:Nat→Nat→Value}(h:Rows w B size A n f):Rows (on (wh D w) σ) B size A n f:=fun hn=>by
 obtain⟨ad,e,hb,hc⟩:=h hn
 exact⟨ad,e,hb,fun i j hi hj=>(FI D w σ _).trans (hc i j hi hj)⟩
theorem WL{D:Nat→Prop}{w:World}{σ:Tape}{b:Bk}{A:Option Addr}(h:oV b A w):oV b A (on (wh D w) σ):=by
 have e:(on (wh D w) σ).heap.size=w.heap.size:=Sj D w
 exact⟨by rw[e];exact⟨sI h.at_.g,sI h.at_.m,sI h.at_.c,h.at_.ng,h.at_.nm,h.at_.nc,h.at_.name⟩,by rw[e];exact sI h.row⟩
def flat:Value→Bool
 | .int _ _=>true
 | .string _=>true
 | _=>false
theorem Ea{ρ:cZ.Ren}{v:Value}(h:flat v=true):VR ρ v v:=by
 cases v <;> first|exact .int _ _|exact .string _|cases h
theorem Ag{ρ:cZ.Ren}{c:Array Value}(h:∀v∈c.toList,VR ρ v v):dZ ρ c c:=⟨rfl,fun i h1 _=>h _ zs⟩
theorem xH{c:Array Value}(h:c.toList.all flat=true):∀v∈c.toList,flat v=true:=fun v hv=>List.all_eq_true.1 h v hv
def Oa(Bc G M C gA:Nat)(b:Nat):Prop:=b=Bc∨b=G∨b=M∨b=C∨b=gA
theorem JE{Bc G M C gA p:Nat}{w:World}(hb:Whole w Bc 73 (ay (Tb 0 G M C) (some ⟨gA,0,none⟩) 4 p))(hT:VJ w G M C)(hA:∃c e,w.heap[gA]? =some (.cells c e (0,0))∧∀x∈c.toList,∃n,x=int i64 n):Closed (Oa Bc G M C gA) w:=fun b hd=>by
 have ar:∀g,Oa Bc G M C gA g→cZ.AR (Gu (Oa Bc G M C gA)) ⟨g,0,none⟩ ⟨g,0,none⟩:=fun g hg=>⟨MG hg,rfl,rfl⟩
 rcases hd with rfl|rfl|rfl|rfl|rfl
 ·refine⟨_,_,_,hb,Nat.zero_le _,Ag fun v hv=>?_⟩
  simp only[Tb,ay,List.mem_cons,List.not_mem_nil,or_false] at hv
  rcases hv with rfl|rfl|rfl|rfl|rfl|rfl
  ·exact .int _ _
  ·exact .int _ _
  ·exact .sl _ _ (ar G (.inr (.inl rfl)))
  ·exact .sl _ _ (ar M (.inr (.inr (.inl rfl))))
  ·exact .sl _ _ (ar C (.inr (.inr (.inr (.inl rfl)))))
  ·exact .sl _ _ (ar gA (.inr (.inr (.inr (.inr rfl)))))
 ·exact⟨_,_,_,hT.1,Nat.zero_le _,Ag fun v hv=>Ea (xH zD v hv)⟩
 ·exact⟨_,_,_,hT.2.1,Nat.zero_le _,Ag fun v hv=>Ea (xH zD v hv)⟩
 ·exact⟨_,_,_,hT.2.2,Nat.zero_le _,Ag fun v hv=>Ea (xH zD v hv)⟩
 ·obtain⟨c,e,h1,h2⟩:=hA
  exact⟨_,_,_,h1,Nat.zero_le _,Ag fun v hv=>by obtain⟨n,rfl⟩:=h2 v hv;exact .int _ _⟩
def Wy(i:Nat):Bool:=decide (2≤i)
theorem NM:(List.range 4).filter Wy=[2,3]:=zD
theorem Pq{Bc G M C gA p:Nat}{w:World}(hb:Whole w Bc 73 (ay (Tb 0 G M C) (some ⟨gA,0,none⟩) 4 p))(hT:VJ w G M C)(hA:∃c e,w.heap[gA]? =some (.cells c e (0,0))∧∀x∈c.toList,∃n,x=int i64 n)(hc:oV (Tb 0 G M C) (some ⟨gA,0,none⟩) w):LM 4 Bc Wy w:=by
 refine⟨zD,Oa Bc G M C gA,JE hb hT hA,.inl rfl,0,fun i hi σ=>?_⟩
 have hl4:(au (Tb 0 G M C)).length=4:=by rw[wJ];rfl
 have q:∀j,(on (wh (Oa Bc G M C gA) w) σ).cell? ⟨Bc,j,none⟩=(ay (Tb 0 G M C) (some ⟨gA,0,none⟩) (au (Tb 0 G M C)).length p)[j]?:=fun j=>by
  rw[FI,hl4]
  exact hb.cell j
 have hs:i=0∨i=1∨i=2∨i=3:=zo
 have hset:(aM i 10).length≤4∧∀x∈aM i 10,0≤x∧x<((Tb 0 G M C).nc:Int):=by
  show _∧∀x∈aM i 10,0≤x∧x<(2:Int)
  rcases hs with rfl|rfl|rfl|rfl <;> decide
 have:=NY (Tb 0 G M C) (some ⟨gA,0,none⟩) p i Bc (on (wh (Oa Bc G M C gA) w) σ) (WL hc) (jY 0 zD G M C) (fB 0 G M C) zo hset.1 hset.2 q
 refine CallsIn.mono this ?_
 rintro e w' ⟨⟨A',cc',rfl⟩,-⟩
 rcases hs with rfl|rfl|rfl|rfl
 ·rw[Qf];rfl
 ·rw[Qg];rfl
 ·rw[Qh];rfl
 ·rw[Qi];rfl
end
section
open Go.RowKit
open Go.Sort (grow)
attribute [local go_sem] Oper.semAt_some
def FT(a b:Int):Int:=if a<b then -1 else if b<a then 1 else 0
theorem ur(a:Int)(w:World):CallsIn FF 0 prog 164 #[int i64 a] w fun e w'=>e=.returned (.bool false)∧w=w':=by
 gi_enter func164,ntmps164
 gi_wp2
 go_ret
 exact⟨zs,rfl⟩
theorem ZV(a b:Int)(w:World):CallsIn FF 0 prog 127 #[int i64 a,int i64 b] w fun e w'=>e=.returned (int i64 (FT a b))∧w=w':=by
 have HN:=hid ur
 rcases Int.lt_trichotomy a b with h|h|h
 ·have e:FT a b=-1:=if_pos h
  rw[e]
  gi_enter func127,ntmps127
  gi_wp2_with (gi_at_call 164;refine(HN.out _ _).mono ?_;rintro e w3 ⟨rfl,rfl⟩)
  all_goals (go_ret;exact⟨rfl,rfl⟩)
 ·subst h
  have e:FT a a=0:=by simp[FT]
  rw[e]
  gi_enter func127,ntmps127
  gi_wp2_with (gi_at_call 164;refine(HN.out _ _).mono ?_;rintro e w3 ⟨rfl,rfl⟩)
  all_goals (go_ret;exact⟨rfl,rfl⟩)
 ·have e:FT a b=1:=by unfold FT;rw[if_neg zo,if_pos h]
  have hn:¬ a<b:=zo
  rw[e]
  gi_enter func127,ntmps127
  gi_wp2_with (gi_at_call 164;refine(HN.out _ _).mono ?_;rintro e w3 ⟨rfl,rfl⟩)
  all_goals (go_ret;exact⟨rfl,rfl⟩)
theorem il(g1 c1 g2 c2:Nat)(w:World)(h10:w.cell? ⟨g1,0,none⟩=some (int i64 0))(h20:w.cell? ⟨g2,0,none⟩=some (int i64 1)):CallsIn FF 0 prog 128 #[.slice (some ⟨g1,0,none⟩) 2 c1,.slice (some ⟨g2,0,none⟩) 1 c2] w fun e w'=>e=.returned (int i64 (-1))∧w=w':=by
 have HC:=hid ZV
 have e:FT 0 1=-1:=zD
 gi_enter func128,ntmps128
 gi_wp2
 refine wpIn_loop_rounds 1 ?_
 rw[roundsIn_succ]
 gi_wp2_with (gi_at_call 127;refine(HC.out _ _ _).mono ?_;rintro e w3 ⟨rfl,rfl⟩;rw[e])
 all_goals (go_ret;exact⟨rfl,rfl⟩)
theorem ON(g c:Nat)(w:World)(h0:w.cell? ⟨g,0,none⟩=some (int i64 1)):CallsIn FF 0 prog 126 #[.slice (some ⟨g,0,none⟩) 2 c] w fun e w'=>e=.returned (int i64 1)∧w=w':=by
 gi_enter func126,ntmps126
 gi_wp2
 refine wpIn_loop_rounds 1 ?_
 rw[roundsIn_succ]
 gi_wp2
 all_goals (go_ret;exact⟨rfl,rfl⟩)
theorem Ob(g1 c1 g2 c2:Nat)(w:World)(h10:w.cell? ⟨g1,0,none⟩=some (int i64 0))(h20:w.cell? ⟨g2,0,none⟩=some (int i64 1)):CallsIn FF 0 prog 111 #[.slice (some ⟨g1,0,none⟩) 2 c1,.slice (some ⟨g2,0,none⟩) 1 c2] w fun e w'=>e=.returned (int i64 1)∧Below w.heap.size w w':=by
 have HC:=hid ZV
 have HS:=hid (il g1 c1 g2 c2 w h10 h20)
 have HO:=hid fun g c w h=>ON g c w h
 have e:FT 2 1=1:=zD
 gi_enter func111,ntmps111
 gi_wp2_with (first
  | (gi_at_call 127;refine(HC.out _ _ _).mono ?_;rintro e w3 ⟨rfl,rfl⟩;rw[e])
  | (gi_at_call 128;refine HS.out.mono ?_;rintro e w3 ⟨rfl,rfl⟩)
  | (gi_at_call 126;refine(HO.out _ _ _ zs).mono ?_;rintro e w3 ⟨rfl,rfl⟩))
 all_goals (go_ret;exact⟨rfl,bw⟩)
theorem TL(g c g1 c1 g2 c2:Nat)(w:World)(h0:w.cell? ⟨g,0,none⟩=some (.slice (some ⟨g1,0,none⟩) 1 c1))(h1:w.cell? ⟨g,1,none⟩=some (.slice (some ⟨g2,0,none⟩) 2 c2))(h10:w.cell? ⟨g1,0,none⟩=some (int i64 1))(h20:w.cell? ⟨g2,0,none⟩=some (int i64 0)):
 CallsIn FF 0 prog 110 #[.func (.func 111) #[] #[],.slice (some ⟨g,0,none⟩) 2 c] w fun e w'=>e=.returned (.tuple #[.slice (some ⟨g1,0,none⟩) 1 c1,.bool true])∧Below w.heap.size w w':=by
 have HC:=hid (Ob g2 c2 g1 c1 w h20 h10)
 gi_enter func110,ntmps110
 gi_wp2
 refine wpIn_loop_rounds 3 ?_
 rw[roundsIn_succ]
 gi_wp2
 repeat (refine⟨fun f h=>(by cases h),?_⟩;gi_wp2)
 rw[roundsIn_succ]
 gi_wp2_with (gi_at_call 111;refine HC.out.mono ?_;rintro e w3 ⟨rfl,hb3⟩)
 rw[roundsIn_succ]
 gi_wp2
 go_ret2
 exact⟨rfl,hb3⟩
theorem Kk(g c:Nat)(w:World)(hc0:w.cell? ⟨g,0,none⟩=some (int i64 2))(hc1:w.cell? ⟨g,1,none⟩=some (int i64 3))(hg:g<w.heap.size):CallsIn FF 0 prog 82 #[.slice (some ⟨g,0,none⟩) 2 c] w fun e w'=>∃v,e=.returned (.tuple #[v,.bool true])∧w'.ownsRow w.heap.size 3 1 v 1 [int i64 1]∧Below w.heap.size w w':=by
 have e2:aM 2 10=[1]:=zD
 have e3:aM 3 10=[0,1]:=zD
 have HS2:=hid fun w=>by have:=mO 2 w zD;rw[e2] at this;exact this
 have Eg:=hid fun w=>by have:=mO 3 w zD;rw[e3] at this;exact this
 have HL:=hid TL
 obtain⟨i0,hi,hz0,hz1,hz2⟩:=info_parts Tryz.infoL
 have hi0:=hid hi
 clear hi e2 e3
 gi_enter func82,ntmps82
 gi_wp2
 refine wpIn_loop_rounds 3 ?_
 rw[roundsIn_succ]
 gi_wp2_with (first
  | (gi_at_call 100;refine(HS2.out w).mono ?_;rintro e w3 ⟨v,rfl,hown,hb3⟩;have lP:=hid hown;obtain⟨g1,c1,rfl,aav,aaw⟩:=hown.form zD;clear hown)
  | (gi_at_builtin;refine aF rfl rfl rfl fun K5 jK=>?_;refine wp_append_lies _ _ _ _ rfl w3.heap.size 30 i0 _ 1 24 underlying44 hi0.out hz0 hz1 hz2 rfl zo (.slice none 0 0) 0 [] rfl ⟨rfl,.inl ⟨rfl,rfl⟩⟩ ⟨w3.heap.size,0,none⟩ 1 1 [_] rfl rfl (World.news_of_block (heap_alloc_new w3 _)) (by simp[Value.oneCell']) zo zu zo zs (w3.heap.size+1) zs ?_;intro rV qJ w10 hown5 aU nI qO;refine jK _ _ ?_;clear jK K5))
 have Ri:Hid (Below w.heap.size w w10):=hid ((Below.al hb3 _).trans (below_grown aU (by simp;have:=hb3.size;omega) (fun g hg=>by cases hg)))
 have Ro:=hid (iF (aL lP.out (.cells #[.slice (some ⟨g1,0,none⟩) [(1:Int)].length c1] 30)) aU (fun g hg=>by simp[Value.ownBlock]))
 have B5:=hid hown5
 have aaM:=Ri.out.size
 have aal:w3.heap.size+1≤w10.heap.size:=by
  have:=(below_grown (B:=w3.heap.size) aU zs (fun g hg=>by cases hg)).size
  simpa using this
 have hc1':w10.cell? ⟨g,1,none⟩=some (int i64 3):=(Ri.out.cell hg).trans hc1
 have aaz:w3.heap.size≤rV:=(bG hown5 (g:=rV) rfl).1
 have hgg:g1<rV:=by have:=(bG hown5 (g:=rV) rfl).1;omega
 rw[roundsIn_succ]
 gi_wp2_with (first
  | (gi_at_call 100;refine(Eg.out w10).mono ?_;rintro e w13 ⟨v,rfl,hown,OA⟩;have DD:=hid hown;obtain⟨g2,c2,rfl,aax,aay⟩:=hown.form zD;clear hown)
  | (gi_at_builtin;refine aF rfl rfl rfl fun K5 jK=>?_;refine wp_append_lies _ _ _ _ rfl w3.heap.size 30 i0 _ 1 24 underlying44 hi0.out hz0 hz1 hz2 rfl zo (.slice (some ⟨rV,0,none⟩) 1 qJ) 1 _ rfl (aL (own_below B5.out OA) _) ⟨w13.heap.size,0,none⟩ 1 1 [_] rfl rfl (World.news_of_block (heap_alloc_new w13 _)) (by simp[Value.oneCell']) zo zu zo (by have:=OA.size;simp;omega) (w13.heap.size+1) zs ?_;intro qa cap4 w20 hown6 tZ rl sR;refine jK _ _ ?_;clear jK K5))
 have fh:Below w3.heap.size w10 w20:=((OA.mono zo).alloc (by have:=OA.size;omega) _).trans (below_grown tZ (by have:=OA.size;simp;omega) (fun q hq=>by cases hq;omega))
 have L1:=iF (aL (own_below Ro.out OA) (.cells #[.slice (some ⟨g2,0,none⟩) [(0:Int),1].length c2] 30)) tZ (fun q hq e=>by cases hq;cases e;omega)
 have L2:=iF (aL DD.out (.cells #[.slice (some ⟨g2,0,none⟩) [(0:Int),1].length c2] 30)) tZ (fun q hq e=>by cases hq;cases e;omega)
 have k1:=L1.cells (g:=g1) rfl 0 (int i64 1) zs
 have k2:=L2.cells (g:=g2) rfl 0 (int i64 0) zs
 have k3:=hown6.cells (g:=qa) rfl 0 (.slice (some ⟨g1,0,none⟩) 1 c1) zs
 have k4:=hown6.cells (g:=qa) rfl 1 (.slice (some ⟨g2,0,none⟩) 2 c2) zs
 simp only[Addr.add] at k1 k2 k3 k4
 rw[roundsIn_succ]
 gi_wp2_with (gi_at_call 110;refine(HL.out qa cap4 g1 c1 g2 c2 w20 (by simpa using k3) (by simpa using k4) (by simpa using k1) (by simpa using k2)).mono ?_;rintro e w22 ⟨rfl,rm⟩)
 go_ret2
 refine⟨_,rfl,own_below L1 rm,Below.next (Ri.out.trans (fh.mono ?_)) rm⟩
 have:=hb3.size
 omega
end
section
open Go Go.Conc Go.ConcN Go.cZ Go.Conc.Lib Go.aQ Go.RowKit
attribute [local go_sem] Oper.semAt_some
variable[Inhabited aZ]
def Past(w w':World):Prop:=∃τ,Below w.heap.size (on w τ) w'
theorem Past.below{w w' w2:World}(h:Past w w')(k:Below w'.heap.size w' w2):Past w w2:=by
 obtain⟨τ,h⟩:=h
 exact⟨τ,h.trans (k.mono h.size)⟩
theorem Past.of{w w1 w':World}(h:Below w.heap.size w w1)(k:Past w1 w'):Past w w':=by
 obtain⟨τ,k⟩:=k
 have hs:=h.size
 exact⟨τ,⟨k.os.trans h.os,k.tape,k.output.trans h.output,Nat.le_trans h.size k.size,fun b hb=>(k.block b (Nat.lt_of_lt_of_le hb hs)).trans (h.block b hb)⟩⟩
def QG(w:World)(x:Value)(w':World):Prop:=∃v,x=.tuple #[v,.bool true]∧w'.ownsRow w.heap.size 3 1 v 1 [int i64 1]∧Past w w'
theorem NZ(G M C gA p:Nat)(w:World)(hT:VJ w G M C)(hA:∃c e,w.heap[gA]? =some (.cells c e (0,0))∧∀x∈c.toList,∃n,x=int i64 n)(hc:oV (Tb 0 G M C) (some ⟨gA,0,none⟩) w):iR 62 #[.agg (ay (Tb 0 G M C) (some ⟨gA,0,none⟩) 4 p)] w (QG w):=by
 obtain⟨w1,hw1⟩:∃w1,w1=w.alloc (.cells (ay (Tb 0 G M C) (some ⟨gA,0,none⟩) 4 p) 73):=⟨_,rfl⟩
 have B1:Below w.heap.size w w1:=by rw[hw1];exact bw
 have X1:Whole w1 w.heap.size 73 (ay (Tb 0 G M C) (some ⟨gA,0,none⟩) 4 p):=by rw[hw1];exact Whole.new _ _ _
 have hpre:LM 4 w.heap.size Wy w1:=by
  refine Pq X1 (hT.of fun b hb=>B1.block b hb) ?_ (hc.below B1)
  obtain⟨c,e,h1,h2⟩:=hA
  exact⟨c,e,(B1.block _ (Array.getElem?_eq_some_iff.1 h1).1).trans h1,h2⟩
 have HV:=hid (Qk w.heap.size Wy w1 hpre NM)
 have HB1:=hid B1
 clear hpre hT hA hc B1
 simp only[Tb,ay] at hw1 X1⊢
 have x4:w1.cell? ⟨w.heap.size,4,none⟩=some (.slice (some ⟨C,0,none⟩) 2 2):=X1.cell 4
 have hs1:w1.heap.size=w.heap.size+1:=by rw[hw1];simp
 have IW:=hid hs1
 have HW1:=hid hw1
 clear X1 hw1 hs1
 refine kH func62 rfl zs ?_
 simp only[ntmps62,List.size_toArray,List.length_cons,List.length_nil,Nat.reduceAdd,Nat.reduceSub,Array.replicate_succ,Array.replicate_zero,List.push_toArray,List.append_toArray,List.nil_append,List.cons_append]
 repeat refine ak.seq ?_
 refine ak.item ?_
 gi_wp2
 repeat refine ak.seq ?_
 rw[← HW1.out]
 refine ak.mQ 7 zD ?_
 simp only[List.take_succ_cons,List.take_zero]
 gi_wp2
 refine jr rfl rfl rfl (enters_of func86 zk rfl) (Rc:=wO w1) (args:=#[int i64 4,fC w.heap.size]) (by simp only[List.map_toArray,List.map_cons,List.map_nil];rfl) HV.out ?_
 rintro v w2 ⟨⟨τ,hb2⟩,hown⟩
 have hb2':=hb2.size
 have tl:w1.heap.size≤w2.heap.size:=hb2'
 obtain⟨g,cap,rfl,hg1,hg2⟩:=hown.form zD
 have k0:w2.cell? ⟨g,0,none⟩=some (int i64 2):=by simpa [Addr.add] using hown.cells (g:=g) rfl 0 (int i64 2) rfl
 have k1:w2.cell? ⟨g,1,none⟩=some (int i64 3):=by simpa [Addr.add] using hown.cells (g:=g) rfl 1 (int i64 3) rfl
 have HL:=hid (Kk g cap w2 k0 k1 hg2)
 have HP:Hid (Past w1 w2):=hid ⟨τ,hb2⟩
 have HS2:=hid tl
 clear hb2 hb2' hown k0 k1 hg1 hg2 tl x4
 simp only[List.drop_succ_cons,List.drop_zero,Act.put,List.setIfInBounds_toArray,List.set_cons_succ,List.set_cons_zero]
 gi_wp2_with (gi_at_call 82;refine HL.out.mono ?_;rintro e w3 ⟨v3,rfl,hv3,hb3⟩)
 simp only[Ap]
 gi_wp2
 refine⟨rfl,_,results_tmp2 rfl _ _ _,_,rfl,v3,rfl,eG hv3 (by have:=IW.out;have:=HS2.out;omega),Past.of HB1.out (HP.out.below hb3)⟩
def QI(w:World)(x:Value)(w':World):Prop:=∃v,x=.tuple #[v,int i64 0]∧w'.ownsRow w.heap.size 3 1 v 1 [int i64 1]∧Past w w'
theorem Bp(G M C:Nat)(w:World)(hT:VJ w G M C)(h:(Tb 0 G M C).At w w.heap.size):iR 24 #[(Tb 0 G M C).val] w (QI w):=by
 have hl4:(au (Tb 0 G M C)).length=4:=by rw[wJ];rfl
 have HO:=hid fun w h=>XU (Tb 0 G M C) w h (jY 0 zD G M C) (Nat.le_refl 2)
 rw[hl4] at HO
 have HV:=hid fun gA p w hT hA hc=>NZ G M C gA p w hT hA hc
 have HA:=hid h
 have HT:=hid hT
 have CH:Hid (∀A w,oV (Tb 0 G M C) A w→∀w',Below w.heap.size w w'→oV (Tb 0 G M C) A w'):=hid fun A w h w' hb=>h.below hb
 clear h hT hl4
 simp only[Tb,Bk.val,Bk.cells,ay] at HO HV⊢
 refine kH func24 rfl zs ?_
 simp only[ntmps24,List.size_toArray,List.length_cons,List.length_nil,Nat.reduceAdd,Nat.reduceSub,Array.replicate_succ,Array.replicate_zero,List.push_toArray,List.append_toArray,List.nil_append,List.cons_append]
 repeat refine ak.seq ?_
 refine ak.item ?_
 gi_wp2
 repeat refine ak.seq ?_
 refine ak.item ?_
 gi_wp2_with (gi_at_call 36;refine(HO.out _ (HA.out.up (bw))).mono ?_;rintro e w2 ⟨A,p,rfl,hc2,hb2,hA2⟩)
 obtain⟨gA,rfl,Ys⟩:∃gA,A=some ⟨gA,0,none⟩∧∃c e,w2.heap[gA]? =some (.cells c e (0,0))∧∀x∈c.toList,∃n,x=int i64 n:=by
  obtain⟨ad,rfl,-,-⟩:=hc2.row (by show 0<(au (Tb 0 G M C)).length;rw[wJ];decide)
  obtain⟨-,h2,h3⟩:=hA2 ad rfl zD
  exact⟨ad.block,by rw[← h2],h3⟩
 have hw2:Below w.heap.size w w2:=Below.next (bw) hb2
 obtain⟨w3,hw3⟩:∃w3,w3=w2.alloc (.cells #[int i64 10,int i64 0,.slice (some ⟨G,0,none⟩) 2 2,.slice (some ⟨M,0,none⟩) 4 4,.slice (some ⟨C,0,none⟩) 2 2,.slice (some ⟨gA,0,none⟩) 4 p] 73):=⟨_,rfl⟩
 have b23:Below w2.heap.size w2 w3:=by rw[hw3];exact bw
 have X3:Whole w3 w2.heap.size 73 #[int i64 10,int i64 0,.slice (some ⟨G,0,none⟩) 2 2,.slice (some ⟨M,0,none⟩) 4 4,.slice (some ⟨C,0,none⟩) 2 2,.slice (some ⟨gA,0,none⟩) 4 p]:=by rw[hw3];exact Whole.new _ _ _
 have Xu:Below w.heap.size w w3:=Below.next hw2 b23
 have ob:=hid (HV.out gA p w3 (HT.out.of fun b hb=>Xu.block b hb) (by
  obtain⟨c,e,h1,h2⟩:=Ys
  exact⟨c,e,(b23.block _ (Array.getElem?_eq_some_iff.1 h1).1).trans h1,h2⟩) (CH.out _ _ hc2 _ b23))
 have x0:=X3.cell 0
 have x1:=X3.cell 1
 have x2:=X3.cell 2
 have x3:=X3.cell 3
 have x4:=X3.cell 4
 have x5:=X3.cell 5
 have HB3:=hid Xu
 have Eg:=hid Xu.size
 rw[← hw3]
 clear hw3 Xu X3 b23 hw2 Ys hA2 hc2 hb2
 repeat refine ak.seq ?_
 refine ak.item ?_
 gi_wp2
 repeat refine ak.seq ?_
 refine ak.cond_false rfl ?_
 refine ak.skip ?_
 repeat refine ak.seq ?_
 refine ak.mQ 1 zD ?_
 simp only[List.take_succ_cons,List.take_zero]
 gi_wp2
 refine jr rfl rfl rfl (enters_of func62 zk rfl) (Rc:=QG w3) (args:=#[.agg #[int i64 10,int i64 0,.slice (some ⟨G,0,none⟩) 2 2,.slice (some ⟨M,0,none⟩) 4 4,.slice (some ⟨C,0,none⟩) 2 2,.slice (some ⟨gA,0,none⟩) 4 p]]) (by simp only[List.map_toArray,List.map_cons,List.map_nil];rfl) ob.out ?_
 rintro x w4 ⟨v,rfl,hown,hpast⟩
 obtain⟨g,cap,rfl,hg1,hg2⟩:=hown.form zD
 have DG:=hid hown
 have DM:=hid hpast
 clear hown hpast x0 x1 x2 x3 x4 x5 hg1 hg2
 simp only[List.drop_succ_cons,List.drop_zero,Act.put,List.setIfInBounds_toArray,List.set_cons_succ,List.set_cons_zero]
 gi_wp2
 simp only[Ap]
 gi_wp2
 exact⟨rfl,_,results_tmp2 rfl _ _ _,_,rfl,_,rfl,eG DG.out Eg.out,Past.of HB3.out DM.out⟩
end
end Go.Proofs.YtmjjocnfidnelaaGreat
