/- TH0 TH1 WKc EXi AL CD HJ -/
import Derived.Test.YthaelabgfnnebaaGreatD9
import Derived.Conc.LoneCalls
set_option maxRecDepth 100000
set_option maxHeartbeats 16000000
set_option linter.unusedVariables false
set_option linter.unusedSectionVars false
open Go.IntKind(i64)
open Go.Lib(hid)
open Go.Proofs.Tryz
open Go.Value(int)
namespace Go.Proofs.YthaelabgfnnebaaGreat
section
open Go Go.Conc Go.RowKit Go.Maps Go.Sort Go.Shelf
section
variable{P:Program}{ops:Array Oper}{Q:Exit→Act→World→Prop}{a:Act}{w:World}{id:Nat}{o:Oper}{rest:List Nat}{c cap s r:Nat}{buf:Array Value}{z:Value}{closed:Bool}{t:TypeId}{x:Operand}
theorem xJ(hop:o.op=.recv t x true)(ρ:Operand→Value)(w:World):o.about P w ρ=none:=by unfold Oper.about;rw[hop]
theorem xK(hop:o.op=.recv t x true)(ro:Option Nat)(ρ:Operand→Value):o.semAt ro ρ=execOp ρ o:=Oper.semAt_eq _ _ _ (by rw[hop];intro c h;cases h)
theorem AQ(ho:ops[0]? =some o)(hop:o.op=.recv t x true)(hw:Region.wanted o (yielded ops a.tmps)=true)(hl:List.range ops.size=0 :: rest)(hex:(execOp a.eval o).run P w=.ok (.comm #[rcase c z] true (.recv true)) w)(hc:w.heap[c]? =some (.chan cap buf closed s r false))(hsome:0<buf.size)
 (h:wpOpsIn FF 0 P ops Q rest (a.put o.dst (.tuple #[buf.getD 0 undef,.bool true])) (w.setChan c cap (buf.extract 1 buf.size) closed s (r+1) false)):(Code.region id ops false).wpIn FF 0 P Q a w:=fun b k cs hro hb hr=>by
 obtain⟨e,a',w',hq,harr⟩:=wp_opsIn rest _ _ h b k cs hro hb hr
 refine⟨e,a',w',hq,.of_steps (.head (fenced_calm (n:=0) hb (bL _) rfl) stepR_region ?_) harr⟩
 rw[hl]
 have hfo:Machine.fenced P FF (lone (b.atR a (.inRegion ops (0 :: rest) :: k)) cs w):=fenced_oper (n:=0) hb (bL _) ho (fun f hf=>by rw[xJ hop] at hf;cases hf)
 refine .one hfo ?_
 have hg:=stepGR_op (P:=P) (b:=b) (k:=k) (cs:=cs) (w:=w) (rest:=rest) ho hw
 rw[xK hop] at hg
 have hcm:∃es,stepG P true (G (b.atR a (.inRegion ops (0 :: rest) :: k)) cs) w=.comm (G (b.atR a (.inRegion ops (0 :: rest) :: k)) cs) #[rcase c z] true (.recv true) w es:=by
  have hg2:=hg
  simp only[stepG.apply,Sem.runT_eq,hex] at hg2
  exact⟨_,hg2⟩
 obtain⟨es,hcm⟩:=hcm
 have:=step_lone_recv_buf true hcm hc hsome
 rw[Frame.finish_atR,ho] at this
 exact this
theorem yS(ho:ops[0]? =some o)(hop:o.op=.recv t x true)(hw:Region.wanted o (yielded ops a.tmps)=true)(hl:List.range ops.size=0 :: rest)(hex:(execOp a.eval o).run P w=.ok (.comm #[rcase c z] true (.recv true)) w)(hc:w.heap[c]? =some (.chan cap #[] true s r false))
 (h:wpOpsIn FF 0 P ops Q rest (a.put o.dst (.tuple #[z,.bool false])) w):(Code.region id ops false).wpIn FF 0 P Q a w:=fun b k cs hro hb hr=>by
 obtain⟨e,a',w',hq,harr⟩:=wp_opsIn rest _ _ h b k cs hro hb hr
 refine⟨e,a',w',hq,.of_steps (.head (fenced_calm (n:=0) hb (bL _) rfl) stepR_region ?_) harr⟩
 rw[hl]
 have hfo:Machine.fenced P FF (lone (b.atR a (.inRegion ops (0 :: rest) :: k)) cs w):=fenced_oper (n:=0) hb (bL _) ho (fun f hf=>by rw[xJ hop] at hf;cases hf)
 refine .one hfo ?_
 have hg:=stepGR_op (P:=P) (b:=b) (k:=k) (cs:=cs) (w:=w) (rest:=rest) ho hw
 rw[xK hop] at hg
 have hcm:∃es,stepG P true (G (b.atR a (.inRegion ops (0 :: rest) :: k)) cs) w=.comm (G (b.atR a (.inRegion ops (0 :: rest) :: k)) cs) #[rcase c z] true (.recv true) w es:=by
  have hg2:=hg
  simp only[stepG.apply,Sem.runT_eq,hex] at hg2
  exact⟨_,hg2⟩
 obtain⟨es,hcm⟩:=hcm
 have:=step_lone_recv_shut true hcm hc
 rw[Frame.finish_atR,ho] at this
 exact this
end
theorem fS(base:Nat)(v:Value)(ss:List Int)(W:World)(h0:0<ss.length)(hlt:ss.length<2 ^ 40)(h:W.ownsRow base 3 1 v ss.length (ss.map encZ)):CallsIn FF 0 prog 98 #[v] W fun e w'=>e=.returned (.tuple #[])∧w'.ownsRow base 3 1 v ss.length ((ss.mergeSort (fun x y=>decide (x≤y))).map encZ)∧W.grownBy w' v.ownBlock:=by
 rcases h.2 with⟨rfl,hz⟩|⟨gb,cap,cur,rfl,hbase,hgb,r1,r2,r3,r4⟩
 ·omega
 ·have hH:Holds encZ W gb 0 ss.toArray:=holds_of_block_i hgb (by simpa using r4)
  have hgl:gb<W.heap.size:=(Array.getElem?_eq_some_iff.1 hgb).1
  have cS:=(Hy 0).1 gb 0 cap ss W hH hgl zo
  refine CallsIn.mono cS ?_
  rintro e w' ⟨rfl,nn,os,rfl⟩
  exact⟨rfl,ownsRow_sorted_i zs hbase hgb r1 r2 r3,grownBy_sorted_i _⟩
end
section
open Go Go.Conc Go.ConcN Go.cu Go.Conc.Lib Go.aO Go.RowKit Go.Maps
attribute [local go_sem] Oper.semAt_some
variable[Inhabited aV]
theorem MC{ρ:Operand→Value}{o:Oper}{x:Operand}{c:Nat}(hop:o.op=.recv 154 x true)(hx:ρ x=.chan (some c))(w:World):(execOp ρ o).run prog w=.ok (.comm #[rcase c (int i64 0)] true (.recv true)) w:=by
 have hz:=mV w
 unfold execOp
 rw[hop]
 simp[Sem.run_bind,run_underlying underlying154,hz,hx,Result.andThen,rcase]
def r13:Array Oper:=#[{dst:=some 22,op:=.recv 154 (.tmp 21) true,type:=0,pos:=th,after:=#[],guard:=none },{dst:=some 23,op:=.extract (.tmp 22) 1,type:=4,pos:=th,after:=#[{on:=0,ground:=.data }],guard:=none }]
section
variable{Q:Exit→Act→World→Prop}{a:Act}{w:World}{c cap s r:Nat}{buf:Array Value}{closed:Bool}
theorem Zm{v:Value}{b:Bool}(hs:23<a.tmps.size)(h:Q .normal ((a.put (some 22) (.tuple #[v,.bool b])).put (some 23) (.bool b)) w):wpOpsIn FF 0 prog r13 Q [1] (a.put (some 22) (.tuple #[v,.bool b])) w:=by
 have h22:22<a.tmps.size:=zo
 simp only[wpOpsIn,r13]
 simp[Region.wanted,Oper.wpIn,Oper.about,Oper.semAt,execOp,h22,Instr.extract,go_sem,Oper.uponIn]
 exact h
theorem xI(hs:a.tmps.size=32)(hx:a.eval (.tmp 21)=.chan (some c))(hc:w.heap[c]? =some (.chan cap buf closed s r false))(hsome:0<buf.size)
 (h:Q .normal ((a.put (some 22) (.tuple #[buf.getD 0 undef,.bool true])).put (some 23) (.bool true)) (w.setChan c cap (buf.extract 1 buf.size) closed s (r+1) false)):(Code.region 13 r13 false).wpIn FF 0 prog Q a w:=
 AQ (o:=r13[0]) rfl rfl rfl (rest:=[1]) rfl (MC rfl hx w) hc hsome (Zm zo h)
theorem GZ(hs:a.tmps.size=32)(hx:a.eval (.tmp 21)=.chan (some c))(hc:w.heap[c]? =some (.chan cap #[] true s r false))
 (h:Q .normal ((a.put (some 22) (.tuple #[int i64 0,.bool false])).put (some 23) (.bool false)) w):(Code.region 13 r13 false).wpIn FF 0 prog Q a w:=
 yS (o:=r13[0]) rfl rfl rfl (rest:=[1]) rfl (MC rfl hx w) hc (Zm zo h)
end
theorem Uc{ss:List Int}(h:ss.Perm [2,3]):(ss.mergeSort fun x y=>decide (x≤y))=[2,3]:=by
 have h1:(ss.mergeSort fun x y=>decide (x≤y)).Perm [2,3]:=(List.mergeSort_perm _ _).trans h
 have h2:(ss.mergeSort fun x y=>decide (x≤y)).Pairwise fun x y=>decide (x≤y)=true:=List.pairwise_mergeSort (fun a b c=>by simp only[decide_eq_true_eq];omega) (fun a b=>by simp only[Bool.or_eq_true,decide_eq_true_eq];omega) ss
 have h3:([2,3]:List Int).Pairwise fun x y=>decide (x≤y)=true:=zD
 exact h1.eq_of_pairwise (fun a b _ _ h1 h2=>by simp only[decide_eq_true_eq] at h1 h2;omega) h2 h3
theorem TI{l:List Value}(h:l.Perm [int i64 2,int i64 3]):∃a b:Int,l=[int i64 a,int i64 b]∧[a,b].mergeSort (fun x y=>decide (x≤y))=[2,3]:=by
 have hl:=h.length_eq
 match l,hl with
 | [x,y],_=>
   have hn:[x,y].Nodup:=h.nodup_iff.2 zs
   have hx:x∈[int i64 2,int i64 3]:=h.mem_iff.1 zs
   have hy:y∈[int i64 2,int i64 3]:=h.mem_iff.1 zs
   simp at hx hy hn
   rcases hx with rfl|rfl <;> rcases hy with rfl|rfl
   ·exact absurd rfl hn
   ·exact⟨2,3,rfl,Uc (.refl _)⟩
   ·exact⟨3,2,rfl,Uc (.swap _ _ _)⟩
   ·exact absurd rfl hn
theorem uJ(w:World)(c cap:Nat)(buf:Array Value)(cl:Bool)(s r:Nat)(tm:Bool)(i:Nat)(h:i≠c):(w.setChan c cap buf cl s r tm).heap[i]? =w.heap[i]?:=by
 show(Array.setIfInBounds w.heap _ _)[i]? =_
 rw[Array.getElem?_setIfInBounds_ne (fun e=>h e.symm)]
theorem mI(w:World)(c cap:Nat)(buf:Array Value)(cl:Bool)(s r:Nat)(tm:Bool):(w.setChan c cap buf cl s r tm).heap.size=w.heap.size:=by simp[World.setChan]
theorem pK{w:World}{n c:Nat}(cap:Nat)(buf:Array Value)(cl:Bool)(s r:Nat)(tm:Bool)(hn:n≤c):Below n w (w.setChan c cap buf cl s r tm):=
 ⟨rfl,rfl,rfl,by rw[mI];exact Nat.le_refl _,fun b hb=>uJ _ _ _ _ _ _ _ _ _ zo⟩
def vX(w:World)(x:Value)(w':World):Prop:=(∃τ,Below w.heap.size (on w τ) w')∧w'.ownsRow w.heap.size 3 1 x 2 [int i64 2,int i64 3]
theorem KR(cb:Nat)(bit:Nat→Bool)(w:World)(hbit:(List.range 4).filter bit=[2,3])(x7 x14 x15 x16 x17 x18:Value)(v:World)(hb:Behind 4 cb w.heap.size bit w v)(σ:Tape):
 lV.wpIn FF 0 prog (bodyPost prog Tryz.f82 (Em (vX w))) (Act.put ⟨P5 4 (fB cb) w.heap.size 4 x7 x14 x15 x16 x17 x18,[]⟩ (some 19) (.tuple #[])) (on v σ):=by
 obtain⟨hsz,hold,jM,⟨buf,s,q,hch,hperm⟩,Gd,hos,hout⟩:=hb
 rw[hbit] at hperm
 obtain⟨Qp,S0⟩:∃Qp,Qp=bodyPost prog Tryz.f82 (Em (vX w)):=⟨_,rfl⟩
 rw[← S0]
 simp only[lV,UJ,Tryz.f82,P5,Act.put,List.setIfInBounds_toArray,List.set_cons_succ,List.set_cons_zero,fB,pt]
 have cN2:(on v σ).cell? ⟨w.heap.size+2,0,none⟩=some (.chan (some (w.heap.size+1))):=by
  unfold World.cell?
  simp[on,Gd]
 have hcl:=fun ats ty=>run_close_open (P:=prog) (w:=on v σ) ats ty hch
 obtain⟨W1,hW1⟩:∃W1,W1=(on v σ).setChan (w.heap.size+1) 4 buf true s q false:=⟨_,rfl⟩
 have E6:∀ats ty,(Builtin.close_ ats ty #[.chan (some (w.heap.size+1))]).run prog (on v σ)=.ok (.tuple #[]) W1:=fun ats ty=>by rw[hW1];exact hcl ats ty
 have c1:W1.heap[w.heap.size+1]? =some (.chan 4 buf true s q false):=by rw[hW1];exact heap_setChan _ _ _ _ _ _ _ _ (by show w.heap.size+1<v.heap.size;omega)
 have T8:∀i,i≠w.heap.size+1→W1.heap[i]? =v.heap[i]?:=fun i hi=>by
  rw[hW1]
  show(Array.setIfInBounds v.heap _ _)[i]? =_
  rw[Array.getElem?_setIfInBounds_ne (fun e=>hi e.symm)]
 have hs1:W1.heap.size=v.heap.size:=by rw[hW1];simp[World.setChan,on]
 have B1:Below w.heap.size (on w σ) W1:=⟨by rw[hW1];exact hos,by rw[hW1];rfl,by rw[hW1];exact hout,by rw[hs1];show w.heap.size≤_;omega,fun b hb=>(T8 b zo).trans (hold b hb)⟩
 have cM2:W1.cell? ⟨w.heap.size+2,0,none⟩=some (.chan (some (w.heap.size+1))):=by
  unfold World.cell?
  simp[T8 (w.heap.size+2) zo,Gd]
 clear hcl hW1
 obtain⟨x0,y0,hbuf,hsrt⟩:=TI hperm
 have pL:buf=#[int i64 x0,int i64 y0]:=by rw[← Array.toList_inj];exact hbuf
 subst pL
 obtain⟨i0,hi,hz0,hz1,hz2⟩:=info_parts info3
 have hi0:=hid hi
 clear hi hbuf hperm
 gi_wp2
 refine wpIn_loop_rounds 3 ?_
 rw[roundsIn_succ]
 refine wpIn_seq ?_
 refine xI rfl rfl c1 zs ?_
 obtain⟨W2,hW2⟩:∃W2,W2=W1.setChan (w.heap.size+1) 4 #[int i64 y0] true s (q+1) false:=⟨_,rfl⟩
 have c2:W2.heap[w.heap.size+1]? =some (.chan 4 #[int i64 y0] true s (q+1) false):=by rw[hW2];exact heap_setChan _ _ _ _ _ _ _ _ zo
 have hs2:W2.heap.size=W1.heap.size:=by rw[hW2];exact mI _ _ _ _ _ _ _ _
 have B2:Hid (Below w.heap.size (on w σ) W2):=hid (B1.trans (by rw[hW2];exact pK _ _ _ _ _ _ zo))
 show Exit.then _ _ .normal _ (W1.setChan (w.heap.size+1) 4 #[int i64 y0] true s (q+1) false)
 rw[← hW2]
 simp only[Act.put,List.setIfInBounds_toArray,List.set_cons_succ,List.set_cons_zero,Exit.then]
 have IB:=hid hs1
 have HS2:=hid hs2
 have Zb:=hid hsz
 clear hW2 c1 cM2 cN2 E6 hch hs1 hs2 hsz
 gi_wp2_with (gi_at_builtin;refine aF rfl rfl rfl fun K5 iX=>?_;refine wp_append_lies _ _ _ _ rfl W1.heap.size 3 i0 _ 1 8 underlying30 hi0.out hz0 hz1 hz2 rfl zo (.slice none 0 0) 0 [] rfl ⟨rfl,.inl ⟨rfl,rfl⟩⟩ ⟨W2.heap.size,0,none⟩ 1 1 [_] rfl rfl (World.news_of_block (heap_alloc_new W2 _)) (by simp[Value.oneCell']) zo zU zo (by have:=HS2.out;simp;omega) (W2.heap.size+1) zs ?_;intro pz nD w10 hown5 aM lG nI;refine iX _ _ ?_;clear iX K5)
 have b10:Below W2.heap.size W2 w10:=((Below.refl _ W2).alloc (Nat.le_refl _) _).trans (below_grown aM zs (fun g hg=>by cases hg))
 have c10:w10.heap[w.heap.size+1]? =some (.chan 4 #[int i64 y0] true s (q+1) false):=(b10.block _ (by have:=IB.out;have:=HS2.out;have:=Zb.out;omega)).trans c2
 have QY:=hid hown5
 have aao:=(bR hown5 (g:=pz) rfl).1
 have B10:Hid (Below w.heap.size (on w σ) w10):=hid (B2.out.trans (b10.mono (by have:=IB.out;have:=HS2.out;have:=Zb.out;omega)))
 have ns:Hid (W2.heap.size≤w10.heap.size):=hid b10.size
 clear hown5 aM lG nI b10 c2
 rw[roundsIn_succ]
 refine wpIn_seq ?_
 refine xI rfl rfl c10 zs ?_
 obtain⟨W3,hW3⟩:∃W3,W3=w10.setChan (w.heap.size+1) 4 #[] true s (q+1+1) false:=⟨_,rfl⟩
 have S3:Hid (W3.heap.size=w10.heap.size):=hid (by rw[hW3];exact mI _ _ _ _ _ _ _ _)
 have c3:W3.heap[w.heap.size+1]? =some (.chan 4 #[] true s (q+1+1) false):=by rw[hW3];exact heap_setChan _ _ _ _ _ _ _ _ (by have:=ns.out;have:=IB.out;have:=HS2.out;have:=Zb.out;omega)
 have B3:Hid (Below w.heap.size (on w σ) W3):=hid (B10.out.trans (by rw[hW3];exact pK _ _ _ _ _ _ zo))
 have Vt:=hid (jS QY.out (w':=W3) (fun g hg hl=>by rw[hW3];exact uJ _ _ _ _ _ _ _ _ _ (by have h1:=(bR QY.out hg).1;have:=IB.out;have:=Zb.out;omega)))
 show Exit.then _ _ .normal _ (w10.setChan (w.heap.size+1) 4 #[] true s (q+1+1) false)
 rw[← hW3]
 simp only[Act.put,List.setIfInBounds_toArray,List.set_cons_succ,List.set_cons_zero,Exit.then]
 clear hW3 c10 QY B10
 gi_wp2_with (gi_at_builtin;refine aF rfl rfl rfl fun K5 iX=>?_;refine wp_append_lies _ _ _ _ rfl W1.heap.size 3 i0 _ 1 8 underlying30 hi0.out hz0 hz1 hz2 rfl zo (.slice (some ⟨pz,0,none⟩) 1 nD) 1 _ rfl (aQ Vt.out _) ⟨W3.heap.size,0,none⟩ 1 1 [_] rfl rfl (World.news_of_block (heap_alloc_new W3 _)) (by simp[Value.oneCell']) zo zU zo (by have:=S3.out;have:=ns.out;have:=HS2.out;simp;omega) (W3.heap.size+1) zs ?_;intro oB cap4 w20 hown6 tC pn qT;refine iX _ _ ?_;clear iX K5)
 have b20:Below W1.heap.size W3 w20:=((Below.refl _ W3).alloc (by have:=S3.out;have:=ns.out;have:=HS2.out;omega) _).trans (below_grown tC (by have:=S3.out;have:=ns.out;have:=HS2.out;simp;omega) (fun g hg=>by cases hg;omega))
 have c20:w20.heap[w.heap.size+1]? =some (.chan 4 #[] true s (q+1+1) false):=(b20.block _ (by have:=IB.out;have:=Zb.out;omega)).trans c3
 have mz:=hid hown6
 have VM:Hid (Below w.heap.size (on w σ) w20):=hid (B3.out.trans (b20.mono (by have:=IB.out;have:=Zb.out;omega)))
 have S20:Hid (W1.heap.size≤w20.heap.size):=hid (by have:=b20.size;have:=S3.out;have:=ns.out;have:=HS2.out;omega)
 clear hown6 tC pn qT b20 c3
 rw[roundsIn_succ]
 refine wpIn_seq ?_
 refine GZ rfl rfl c20 ?_
 simp only[Act.put,List.setIfInBounds_toArray,List.set_cons_succ,List.set_cons_zero,Exit.then]
 have mS:=hid (fS W1.heap.size (.slice (some ⟨oB,0,none⟩) 2 cap4) [x0,y0] w20 zs zs mz.out)
 clear c20 Vt mz
 gi_wp2_with (gi_at_call 98;refine mS.out.mono ?_;rintro e w22 ⟨rfl,hown,hgrow⟩)
 rw[S0]
 rw[hsrt] at hown
 have b22:Below W1.heap.size w20 w22:=below_grown hgrow S20.out (fun g hg=>by have h1:=(bR hown hg).1;omega)
 exact⟨rfl,_,results_tmp rfl _ _ _,_,rfl,⟨σ,VM.out.trans (b22.mono (by have:=IB.out;have:=Zb.out;omega))⟩,dP hown (by have:=IB.out;have:=Zb.out;omega)⟩
theorem enter_at{fn:Func}{c:Code}{f:FuncId}{args:Array Value}(hf:Tryz.prog.funcs[f]? =some fn)(hb:fn.body=some c):Frame.enter prog f args .normal=(base f).at {tmps:=args ++ Array.replicate (fn.ntmps - args.size) undef,defers:=[] } [.code c]:=by
 simp[Frame.enter,Frame.at,hf,hb,base]
theorem UK(cb:Nat):Frame.enter prog 82 #[int i64 4,fB cb] .normal=kN 4 cb:=by
 rw[enter_at func82 (c:=tV) rfl]
 simp only[ntmps82,List.size_toArray,List.length_cons,List.length_nil,Nat.reduceAdd,Nat.reduceSub,Array.replicate_succ,Array.replicate_zero,List.push_toArray,List.append_toArray,List.nil_append,List.cons_append]
 rfl
theorem YK(ac:Act)(cs:List Frame)(v:World)(σ:Tape):((⟨yF ac,cs,v⟩:dS.Pt).on σ).m=lone ((base 82).atR (ac.put ((oU[0]?).bind (·.dst)) (.tuple #[])) (.inRegion oU [] :: [lV].map Item.code)) cs (on v σ):=rfl
theorem ia:(oU[0]?).bind (·.dst)=some 19:=rfl
theorem P6(cb:Nat)(bit:Nat→Bool)(w:World)(hpre:Li 4 cb bit w)(hbit:(List.range 4).filter bit=[2,3]):iR 82 #[int i64 4,fB cb] w (vX w):=by
 refine⟨zs,fun cs=>⟨4,cb,cs,w,bit,?_,hpre,fun ac hac v hb σ=>?_⟩⟩
 ·rw[UK]
  exact .refl _
 ·obtain⟨x7,x14,x15,x16,x17,x18,rfl⟩:=hac
  rw[YK,ia]
  have h:=KR cb bit w hbit x7 x14 x15 x16 x17 x18 v hb σ
  refine Cj (ops:=oU) (fn:=Tryz.f82) (R:=vX w) (l:=[lV]) (rest:=[]) ?_ (base 82) cs rfl rfl (by show FF.fn 82;simp) func82
  exact wpIn_mono h (fun e a w h=>by cases e <;> exact h)
end
section
open Go.RowKit
open Go.Sort (grow)
attribute [local go_sem] Oper.semAt_some
theorem Nw(b:Bk)(A:Option Addr)(p s Bc:Nat)(w:World)(hc:om b A w)(ok:b.Ok)(hl:∀s∈ak b,dN s)(hs:s<1024)(h4:(aB s 10).length≤4)(hin:∀x∈aB s 10,0≤x∧x<b.nc)(q:∀j,w.cell? ⟨Bc,j,none⟩=(aA b A (ak b).length p)[j]?):
 CallsIn SF 0 prog 83 #[int i64 s,.pointer (some ⟨Bc,0,none⟩)] w fun e w'=>(∃A' cc',e=.returned (.bool (aG (jk b s A' cc') (ak b)).isEmpty))∧Below w.heap.size w w':=by
 obtain⟨n,hn⟩:∃n,n=(ak b).length:=⟨_,rfl⟩
 have HA:=hid fun(w':World) (hb:Below w.heap.size w w')=>VK b s A n p w' (hc.at_.up hb) hs hin
 have me:Hid (∀ (A':Option Addr) (cc':Nat) (w':World),Below w.heap.size w w'→Rows w' w'.heap.size 4 A' (aB s 10).length (fun i j=>(RH b s i).cell j)→(jk b s A' cc').At w' w'.heap.size):=hid fun A' cc' w' hb hr=>
  ⟨(hc.at_.up hb).g,(hc.at_.up hb).m,hr,hc.at_.ng,hc.at_.nm,(Nat.le_trans h4 zU:(aB s 10).length≤maxLen),hc.at_.name⟩
 have HR:=hid fun(w':World) (hb:Below w.heap.size w w')=>(hc.row.below hb).more hb.size
 have HH:=hid fun A' cc' (w':World)=>nH (p:=SF.fn) (jk b s A' cc') A n p w'
 have HS:=hid fun A' cc' V' (w':World) hA hR hb=>KA (jk b s A' cc') (cJ b s A' cc' ok h4 hin) (ak b) hl (gF b ok) A p V' w' hA hR hb
 have HY:=hid fun A' cc' lb (w':World) h=>Rh (p:=SF.fn) 76 lb (aG (jk b s A' cc') (ak b)) w' h
 obtain⟨R,hR⟩:∃R:Option Addr→Nat→List Ht,R=fun A' cc'=>aG (jk b s A' cc') (ak b):=⟨_,rfl⟩
 have jx:Hid (∀A' cc',aG (jk b s A' cc') (ak b)=R A' cc'):=hid fun A' cc'=>by rw[hR]
 have goal:∀ (e:Ending) (w':World),((∃A' cc',e=.returned (.bool (R A' cc').isEmpty))∧Below w.heap.size w w')→(∃A' cc',e=.returned (.bool (aG (jk b s A' cc') (ak b)).isEmpty))∧Below w.heap.size w w':=fun e w' ⟨⟨A',cc',h⟩,hb⟩=>⟨⟨A',cc',by rw[jx.out];exact h⟩,hb⟩
 refine CallsIn.mono ?_ goal
 rw[← hn] at q
 clear goal hR hl hs ok hc
 have Hn:=hid hn
 clear hn
 obtain⟨w0,hw0⟩:∃w0,w0=w:=⟨_,rfl⟩
 have q0:w.cell? ⟨Bc,0,none⟩=some (int i64 b.days):=q 0
 have q1:w.cell? ⟨Bc,1,none⟩=some (int i64 b.most):=q 1
 have q2:w.cell? ⟨Bc,2,none⟩=some (.slice b.gA b.ng b.gc):=q 2
 have q3:w.cell? ⟨Bc,3,none⟩=some (.slice b.mA b.nm b.mc):=q 3
 have q4:w.cell? ⟨Bc,4,none⟩=some (.slice b.cA b.nc b.cc):=q 4
 have q5:w.cell? ⟨Bc,5,none⟩=some (.slice A n p):=q 5
 clear q
 simp only[aA] at HA HH
 gi_enter func83,ntmps83
 gi_wp2_with (first
  | (gi_at_call 84;refine(HA.out w (Below.refl _ _)).mono ?_;rintro e w3 ⟨A',cc',rfl,hr3,hb3⟩)
  | (gi_at_call 40;refine(HH.out A' cc' w3).mono ?_;rintro e w4 ⟨rfl,hw4,hb4,-⟩)
  | (gi_at_call 80;refine(HY.out A' cc' _ w4 (HS.out A' cc' _ w4 ((me.out A' cc' w3 hb3 hr3).up hb4) (HR.out w4 (Below.next hb3 hb4)) (by rw[← Hn.out];exact hw4))).mono ?_;rintro e w5 ⟨rfl,hb5⟩;rw[jx.out]))
 go_ret
 refine⟨⟨A',cc',?_⟩,Below.next (Below.next hb3 hb4) hb5⟩
 simp
def tgC:Array Value:=#[.string ⟨#[116,101,97]⟩,int i64 5,int i64 4,int i64 3,int i64 3,.string ⟨#[114,105,99,101]⟩,int i64 2,int i64 10,int i64 5,int i64 6]
def tmC:Array Value:=#[int i64 0,int i64 0,int i64 2,int i64 4,int i64 4,int i64 1,int i64 0,int i64 3,int i64 2,int i64 3,int i64 2,int i64 1,int i64 4,int i64 0,int i64 1,int i64 0,int i64 1,int i64 5,int i64 10,int i64 10]
def tcC:Array Value:=#[int i64 0,int i64 10,int i64 4,int i64 5,int i64 1,int i64 10,int i64 5,int i64 5]
def Vj(w:World)(G M C:Nat):Prop:=Whole w G 40 tgC∧Whole w M 52 tmC∧Whole w C 99 tcC
theorem Vj.of{w w':World}{G M C:Nat}(h:Vj w G M C)(hk:∀b,b<w.heap.size→w'.heap[b]? =w.heap[b]?):Vj w' G M C:=⟨h.1.of (hk _ h.1.lt),h.2.1.of (hk _ h.2.1.lt),h.2.2.of (hk _ h.2.2.lt)⟩
theorem JE(w:World):CallsIn FF 0 prog 24 #[] w fun e w'=>∃G M C,e=.returned (Tb 1 G M C).val∧(Tb 1 G M C).At w' w'.heap.size∧Below w.heap.size w w'∧Vj w' G M C:=by
 have HT:=hid tU
 gi_enter func24,ntmps24
 gi_wp2_with (first
  | (gi_at_call 31;refine(HT.out 3 3 _).mono ?_;rintro e w1 ⟨rfl,hb1⟩)
  | (gi_at_call 31;refine(HT.out 5 6 _).mono ?_;rintro e w2 ⟨rfl,hb2⟩)
  | (gi_at_call 31;refine(HT.out 4 4 _).mono ?_;rintro e w3 ⟨rfl,hb3⟩)
  | (gi_at_call 31;refine(HT.out 2 3 _).mono ?_;rintro e w4 ⟨rfl,hb4⟩)
  | (gi_at_call 31;refine(HT.out 0 1 _).mono ?_;rintro e w5 ⟨rfl,hb5⟩)
  | (gi_at_call 31;refine(HT.out 10 10 _).mono ?_;rintro e w6 ⟨rfl,hb6⟩)
  | (gi_at_call 31;refine(HT.out 4 5 _).mono ?_;rintro e w7 ⟨rfl,DX⟩)
  | (gi_at_call 31;refine(HT.out 5 5 _).mono ?_;rintro e w8 ⟨rfl,LW⟩;have k1:=hb1.size;have k2:=hb2.size;have k3:=hb3.size;have k4:=hb4.size;have k5:=hb5.size;have k6:=hb6.size;have k7:=DX.size;have k8:=LW.size;simp only[World.size_alloc] at k1 k2 k3 k4 k5 k6 k7 k8;have Y1:=(Whole.new w 26 #[int i64 0,int i64 0,.slice none 0 0,.slice none 0 0,.slice none 0 0]).below hb1 zs;have Y2:=Y1.below hb2 Y1.lt;have Y3:=(Y2.alloc (.cells #[.string ⟨#[116,101,97]⟩,int i64 5,int i64 4,int i64 3,int i64 3,.string ⟨#[114,105,99,101]⟩,int i64 2,int i64 10,int i64 5,int i64 6] 40)).below hb3 (Y2.alloc _).lt;have Y4:=Y3.below hb4 Y3.lt;have Y5:=Y4.below hb5 Y4.lt;have Y6:=Y5.below hb6 Y5.lt;have Y7:=(Y6.alloc (.cells #[int i64 0,int i64 0,int i64 2,int i64 4,int i64 4,int i64 1,int i64 0,int i64 3,int i64 2,int i64 3,int i64 2,int i64 1,int i64 4,int i64 0,int i64 1,int i64 0,int i64 1,int i64 5,int i64 10,int i64 10] 52)).below DX (Y6.alloc _).lt;have Y8:=Y7.below LW Y7.lt;have Y9:=Y8.alloc (.cells #[int i64 0,int i64 10,int i64 4,int i64 5,int i64 1,int i64 10,int i64 5,int i64 5] 99);have yth:=Y9.thaw;have y0:(w8.alloc (.cells #[int i64 0,int i64 10,int i64 4,int i64 5,int i64 1,int i64 10,int i64 5,int i64 5] 99)).cell? ⟨w.heap.size,0,none⟩=some (int i64 0):=Y9.cell 0;have y1:(w8.alloc (.cells #[int i64 0,int i64 10,int i64 4,int i64 5,int i64 1,int i64 10,int i64 5,int i64 5] 99)).cell? ⟨w.heap.size,1,none⟩=some (int i64 0):=Y9.cell 1;have y2:(w8.alloc (.cells #[int i64 0,int i64 10,int i64 4,int i64 5,int i64 1,int i64 10,int i64 5,int i64 5] 99)).cell? ⟨w.heap.size,2,none⟩=some (.slice none 0 0):=Y9.cell 2;have y3:(w8.alloc (.cells #[int i64 0,int i64 10,int i64 4,int i64 5,int i64 1,int i64 10,int i64 5,int i64 5] 99)).cell? ⟨w.heap.size,3,none⟩=some (.slice none 0 0):=Y9.cell 3;have y4:(w8.alloc (.cells #[int i64 0,int i64 10,int i64 4,int i64 5,int i64 1,int i64 10,int i64 5,int i64 5] 99)).cell? ⟨w.heap.size,4,none⟩=some (.slice none 0 0):=Y9.cell 4))
 have g3:=(Whole.new w2 40 #[.string ⟨#[116,101,97]⟩,int i64 5,int i64 4,int i64 3,int i64 3,.string ⟨#[114,105,99,101]⟩,int i64 2,int i64 10,int i64 5,int i64 6]).below hb3 zs
 have g4:=g3.below hb4 g3.lt
 have g5:=g4.below hb5 g4.lt
 have g6:=g5.below hb6 g5.lt
 have g7:=(g6.alloc (.cells #[int i64 0,int i64 0,int i64 2,int i64 4,int i64 4,int i64 1,int i64 0,int i64 3,int i64 2,int i64 3,int i64 2,int i64 1,int i64 4,int i64 0,int i64 1,int i64 0,int i64 1,int i64 5,int i64 10,int i64 10] 52)).below DX (g6.alloc _).lt
 have g8:=(g7.below LW g7.lt).alloc (.cells #[int i64 0,int i64 10,int i64 4,int i64 5,int i64 1,int i64 10,int i64 5,int i64 5] 99)
 have m7:=(Whole.new w6 52 #[int i64 0,int i64 0,int i64 2,int i64 4,int i64 4,int i64 1,int i64 0,int i64 3,int i64 2,int i64 3,int i64 2,int i64 1,int i64 4,int i64 0,int i64 1,int i64 0,int i64 1,int i64 5,int i64 10,int i64 10]).below DX zs
 have m8:=(m7.below LW m7.lt).alloc (.cells #[int i64 0,int i64 10,int i64 4,int i64 5,int i64 1,int i64 10,int i64 5,int i64 5] 99)
 have c8:=Whole.new w8 99 #[int i64 0,int i64 10,int i64 4,int i64 5,int i64 1,int i64 10,int i64 5,int i64 5]
 have U:=(((((Y8.alloc (.cells #[int i64 0,int i64 10,int i64 4,int i64 5,int i64 1,int i64 10,int i64 5,int i64 5] 99)).set 0 (int i64 10)).set 1 (int i64 1)).set 2 (.slice (some ⟨w2.heap.size,0,none⟩) 2 2)).set 3 (.slice (some ⟨w6.heap.size,0,none⟩) 4 4)).set 4 (.slice (some ⟨w8.heap.size,0,none⟩) 2 2)
 have u0:=U.cell 0
 have u1:=U.cell 1
 have u2:=U.cell 2
 have u3:=U.cell 3
 have u4:=U.cell 4
 have HB:Below w.heap.size w (w8.alloc (.cells #[int i64 0,int i64 10,int i64 4,int i64 5,int i64 1,int i64 10,int i64 5,int i64 5] 99)):=Below.al (Below.next (Below.next (Below.al (Below.next (Below.next (Below.next (Below.next (Below.al (Below.next (Below.next (Below.al (Below.refl _ w) _) hb1) hb2) _) hb3) hb4) hb5) hb6) _) DX) LW) _
 refine bodyPost_ret (v:=.agg #[int i64 10,int i64 1,.slice (some ⟨w2.heap.size,0,none⟩) 2 2,.slice (some ⟨w6.heap.size,0,none⟩) 4 4,.slice (some ⟨w8.heap.size,0,none⟩) 2 2]) (by simp[results,results24,go_sem,u0,u1,u2,u3,u4]) rfl ⟨w2.heap.size,w6.heap.size,w8.heap.size,rfl,⟨?_,?_,?_,(by decide:2≤maxLen),(by decide:4≤maxLen),(by decide:2≤maxLen),fun i _=>?_⟩,?_,?_,?_,?_⟩
 ·exact bU ((((((g8).other (p:=⟨w.heap.size,0,none⟩) zn (int i64 10)).other (p:=⟨w.heap.size,1,none⟩) zn (int i64 1)).other (p:=⟨w.heap.size,2,none⟩) zn (.slice (some ⟨w2.heap.size,0,none⟩) 2 2)).other (p:=⟨w.heap.size,3,none⟩) zn (.slice (some ⟨w6.heap.size,0,none⟩) 4 4)).other (p:=⟨w.heap.size,4,none⟩) zn (.slice (some ⟨w8.heap.size,0,none⟩) 2 2)) fun i j hi hj=>(by have hi:i<2:=hi;have hj:j<5:=hj;rcases(show i=0∨i=1 by omega) with rfl|rfl <;> rcases(show j=0∨j=1∨j=2∨j=3∨j=4 by omega) with rfl|rfl|rfl|rfl|rfl <;> rfl)
 ·exact bU ((((((m8).other (p:=⟨w.heap.size,0,none⟩) zn (int i64 10)).other (p:=⟨w.heap.size,1,none⟩) zn (int i64 1)).other (p:=⟨w.heap.size,2,none⟩) zn (.slice (some ⟨w2.heap.size,0,none⟩) 2 2)).other (p:=⟨w.heap.size,3,none⟩) zn (.slice (some ⟨w6.heap.size,0,none⟩) 4 4)).other (p:=⟨w.heap.size,4,none⟩) zn (.slice (some ⟨w8.heap.size,0,none⟩) 2 2)) fun i j hi hj=>(by have hi:i<4:=hi;have hj:j<5:=hj;rcases(show i=0∨i=1∨i=2∨i=3 by omega) with rfl|rfl|rfl|rfl <;> rcases(show j=0∨j=1∨j=2∨j=3∨j=4 by omega) with rfl|rfl|rfl|rfl|rfl <;> rfl)
 ·exact bU ((((((c8).other (p:=⟨w.heap.size,0,none⟩) zn (int i64 10)).other (p:=⟨w.heap.size,1,none⟩) zn (int i64 1)).other (p:=⟨w.heap.size,2,none⟩) zn (.slice (some ⟨w2.heap.size,0,none⟩) 2 2)).other (p:=⟨w.heap.size,3,none⟩) zn (.slice (some ⟨w6.heap.size,0,none⟩) 4 4)).other (p:=⟨w.heap.size,4,none⟩) zn (.slice (some ⟨w8.heap.size,0,none⟩) 2 2)) fun i j hi hj=>(by have hi:i<2:=hi;have hj:j<4:=hj;rcases(show i=0∨i=1 by omega) with rfl|rfl <;> rcases(show j=0∨j=1∨j=2∨j=3 by omega) with rfl|rfl|rfl|rfl <;> rfl)
 ·show((tg i).name).size≤maxLen
  rcases i with _|i
  ·exact(by decide:3≤maxLen)
  ·exact(by decide:4≤maxLen)
 ·exact((((HB.setCell (p:=⟨w.heap.size,0,none⟩) zs _).setCell zs _).setCell zs _).setCell zs _).setCell zs _
 ·exact((((((g8).other (p:=⟨w.heap.size,0,none⟩) zn (int i64 10)).other (p:=⟨w.heap.size,1,none⟩) zn (int i64 1)).other (p:=⟨w.heap.size,2,none⟩) zn (.slice (some ⟨w2.heap.size,0,none⟩) 2 2)).other (p:=⟨w.heap.size,3,none⟩) zn (.slice (some ⟨w6.heap.size,0,none⟩) 4 4)).other (p:=⟨w.heap.size,4,none⟩) zn (.slice (some ⟨w8.heap.size,0,none⟩) 2 2))
 ·exact((((((m8).other (p:=⟨w.heap.size,0,none⟩) zn (int i64 10)).other (p:=⟨w.heap.size,1,none⟩) zn (int i64 1)).other (p:=⟨w.heap.size,2,none⟩) zn (.slice (some ⟨w2.heap.size,0,none⟩) 2 2)).other (p:=⟨w.heap.size,3,none⟩) zn (.slice (some ⟨w6.heap.size,0,none⟩) 4 4)).other (p:=⟨w.heap.size,4,none⟩) zn (.slice (some ⟨w8.heap.size,0,none⟩) 2 2))
 ·exact((((((c8).other (p:=⟨w.heap.size,0,none⟩) zn (int i64 10)).other (p:=⟨w.heap.size,1,none⟩) zn (int i64 1)).other (p:=⟨w.heap.size,2,none⟩) zn (.slice (some ⟨w2.heap.size,0,none⟩) 2 2)).other (p:=⟨w.heap.size,3,none⟩) zn (.slice (some ⟨w6.heap.size,0,none⟩) 4 4)).other (p:=⟨w.heap.size,4,none⟩) zn (.slice (some ⟨w8.heap.size,0,none⟩) 2 2))
end
section
open Go.RowKit
theorem Xp(b:Bk)(w:World)(h:b.At w w.heap.size)(ok:b.Ok)(hcap:b.ng≤b.gc):CallsIn FF 0 prog 33 #[b.val] w fun e w'=>∃A p,e=.returned (.tuple #[.agg (aA b A (ak b).length p),int i64 0])∧om b A w'∧Below w.heap.size w w'∧∀ad,A=some ad→0<(ak b).length→w.heap.size≤ad.block∧ad=⟨ad.block,0,none⟩∧∃c e,w'.heap[ad.block]? =some (.cells c e (0,0))∧∀x∈c.toList,∃n,x=int i64 n:=by
 refine(TB b w h ok hcap).mono ?_
 rintro e w' ⟨A,p,rfl,hrow,hb,hib⟩
 have hl:(bP b (2 ^ b.nm)).length=(ak b).length:=by rw[rG,List.length_map]
 refine⟨A,p,by rw[hl,RG],⟨h.up hb,?_⟩,hb,fun ad hA hn=>by
  subst hA
  rcases hrow.2 with⟨h0,_⟩|⟨g',cap,cur,h0,h1,_⟩
  ·injection h0 with h0 _ _;cases h0
  ·injection h0 with h0 _ _;cases h0;exact⟨h1,rfl,hib g' rfl⟩⟩
 have:=dA hrow
 rw[hl] at this
 unfold Ints at this
 intro hn
 obtain⟨ad,e,hb,hc⟩:=this hn
 refine⟨ad,e,hb,fun i j hi hj=>(hc i j hi hj).trans ?_⟩
 rw[rG]
 congr 2
 simp[List.getD_eq_getElem?_getD,List.getElem?_map,List.getElem?_eq_getElem hi]
end
section
open Go Go.Conc Go.ConcN Go.cu Go.Conc.Lib Go.aO Go.RowKit
variable[Inhabited aV]
theorem Fw(D:Nat→Prop)(w:World)(σ:Tape)(p:Addr):(on (vF D w) σ).cell? p=w.cell? p:=by
 unfold World.cell?
 show(match (vF D w).heap[p.block]? with|some (.cells c _ _)=>if p.spot.isSome then none else c[p.off]? |_=>none)=_
 by_cases h:D p.block
 ·cases ho:w.heap[p.block]? with
  | none=>rw[show(vF D w).heap[p.block]? =none by simp[vF,Array.getElem?_mapIdx,ho]]
  | some o=>
    rw[show(vF D w).heap[p.block]? =some (de o) by simp[vF,Array.getElem?_mapIdx,ho,h]]
    cases o <;> rfl
 ·rw[Wy h]
  cases w.heap[p.block]? with
  | none=>rfl
  | some o=>cases o <;> rfl
theorem rU{D:Nat→Prop}{w:World}{σ:Tape}{B size n:Nat}{A:Option Addr}{f:Nat→Nat→Value}(h:Rows w B size A n f):Rows (on (vF D w) σ) B size A n f:=fun hn=>by
 obtain⟨ad,e,hb,hc⟩:=h hn
 exact⟨ad,e,hb,fun i j hi hj=>(Fw D w σ _).trans (hc i j hi hj)⟩
theorem V5{D:Nat→Prop}{w:World}{σ:Tape}{b:Bk}{A:Option Addr}(h:om b A w):om b A (on (vF D w) σ):=by
 have e:(on (vF D w) σ).heap.size=w.heap.size:=RS D w
 exact⟨by rw[e];exact⟨rU h.at_.g,rU h.at_.m,rU h.at_.c,h.at_.ng,h.at_.nm,h.at_.nc,h.at_.name⟩,by rw[e];exact rU h.row⟩
def flat:Value→Bool
 | .int _ _=>true
 | .string _=>true
 | _=>false
theorem DR{ρ:cu.Ren}{v:Value}(h:flat v=true):VR ρ v v:=by
 cases v <;> first|exact .int _ _|exact .string _|cases h
theorem yH{ρ:cu.Ren}{c:Array Value}(h:∀v∈c.toList,VR ρ v v):dY ρ c c:=⟨rfl,fun i h1 _=>h _ zs⟩
theorem wP{c:Array Value}(h:c.toList.all flat=true):∀v∈c.toList,flat v=true:=fun v hv=>List.all_eq_true.1 h v hv
def Nz(Bc G M C gA:Nat)(b:Nat):Prop:=b=Bc∨b=G∨b=M∨b=C∨b=gA
theorem Jv{Bc G M C gA p:Nat}{w:World}(hb:Whole w Bc 76 (aA (Tb 0 G M C) (some ⟨gA,0,none⟩) 4 p))(hT:Vj w G M C)(hA:∃c e,w.heap[gA]? =some (.cells c e (0,0))∧∀x∈c.toList,∃n,x=int i64 n):Closed (Nz Bc G M C gA) w:=fun b hd=>by
 have ar:∀g,Nz Bc G M C gA g→cu.AR (Gl (Nz Bc G M C gA)) ⟨g,0,none⟩ ⟨g,0,none⟩:=fun g hg=>⟨Mf hg,rfl,rfl⟩
 rcases hd with rfl|rfl|rfl|rfl|rfl
 ·refine⟨_,_,_,hb,Nat.zero_le _,yH fun v hv=>?_⟩
  simp only[Tb,aA,List.mem_cons,List.not_mem_nil,or_false] at hv
  rcases hv with rfl|rfl|rfl|rfl|rfl|rfl
  ·exact .int _ _
  ·exact .int _ _
  ·exact .sl _ _ (ar G (.inr (.inl rfl)))
  ·exact .sl _ _ (ar M (.inr (.inr (.inl rfl))))
  ·exact .sl _ _ (ar C (.inr (.inr (.inr (.inl rfl)))))
  ·exact .sl _ _ (ar gA (.inr (.inr (.inr (.inr rfl)))))
 ·exact⟨_,_,_,hT.1,Nat.zero_le _,yH fun v hv=>DR (wP zD v hv)⟩
 ·exact⟨_,_,_,hT.2.1,Nat.zero_le _,yH fun v hv=>DR (wP zD v hv)⟩
 ·exact⟨_,_,_,hT.2.2,Nat.zero_le _,yH fun v hv=>DR (wP zD v hv)⟩
 ·obtain⟨c,e,h1,h2⟩:=hA
  exact⟨_,_,_,h1,Nat.zero_le _,yH fun v hv=>by obtain⟨n,rfl⟩:=h2 v hv;exact .int _ _⟩
def VO(i:Nat):Bool:=decide (2≤i)
theorem Nq:(List.range 4).filter VO=[2,3]:=zD
theorem OP{Bc G M C gA p:Nat}{w:World}(hb:Whole w Bc 76 (aA (Tb 0 G M C) (some ⟨gA,0,none⟩) 4 p))(hT:Vj w G M C)(hA:∃c e,w.heap[gA]? =some (.cells c e (0,0))∧∀x∈c.toList,∃n,x=int i64 n)(hc:om (Tb 0 G M C) (some ⟨gA,0,none⟩) w):Li 4 Bc VO w:=by
 refine⟨zD,Nz Bc G M C gA,Jv hb hT hA,.inl rfl,0,fun i hi σ=>?_⟩
 have hl4:(ak (Tb 0 G M C)).length=4:=by rw[vP];rfl
 have q:∀j,(on (vF (Nz Bc G M C gA) w) σ).cell? ⟨Bc,j,none⟩=(aA (Tb 0 G M C) (some ⟨gA,0,none⟩) (ak (Tb 0 G M C)).length p)[j]?:=fun j=>by
  rw[Fw,hl4]
  exact hb.cell j
 have hs:i=0∨i=1∨i=2∨i=3:=zo
 have hset:(aB i 10).length≤4∧∀x∈aB i 10,0≤x∧x<((Tb 0 G M C).nc:Int):=by
  show _∧∀x∈aB i 10,0≤x∧x<(2:Int)
  rcases hs with rfl|rfl|rfl|rfl <;> decide
 have:=Nw (Tb 0 G M C) (some ⟨gA,0,none⟩) p i Bc (on (vF (Nz Bc G M C gA) w) σ) (V5 hc) (jW 0 zD G M C) (fq 0 G M C) zo hset.1 hset.2 q
 refine CallsIn.mono this ?_
 rintro e w' ⟨⟨A',cc',rfl⟩,-⟩
 rcases hs with rfl|rfl|rfl|rfl
 ·rw[PO];rfl
 ·rw[PU];rfl
 ·rw[PW];rfl
 ·rw[PX];rfl
end
section
open Go.RowKit
open Go.Sort (grow)
attribute [local go_sem] Oper.semAt_some
theorem Ti(g c g1 c1 g2 c2:Nat)(w:World)(h0:w.cell? ⟨g,0,none⟩=some (.slice (some ⟨g1,0,none⟩) 1 c1))(h1:w.cell? ⟨g,1,none⟩=some (.slice (some ⟨g2,0,none⟩) 2 c2))(h10:w.cell? ⟨g1,0,none⟩=some (int i64 1))(h20:w.cell? ⟨g2,0,none⟩=some (int i64 0)):
 CallsIn FF 0 prog 107 #[.func (.func 108) #[] #[],.slice (some ⟨g,0,none⟩) 2 c] w fun e w'=>e=.returned (.tuple #[.slice (some ⟨g1,0,none⟩) 1 c1,.bool true])∧Below w.heap.size w w':=by
 have HC:=hid (NA g2 c2 g1 c1 w h20 h10)
 gi_enter func107,ntmps107
 gi_wp2
 refine wpIn_loop_rounds 3 ?_
 rw[roundsIn_succ]
 gi_wp2
 repeat (refine⟨fun f h=>(by cases h),?_⟩;gi_wp2)
 rw[roundsIn_succ]
 gi_wp2_with (gi_at_call 108;refine HC.out.mono ?_;rintro e w3 ⟨rfl,hb3⟩)
 rw[roundsIn_succ]
 gi_wp2
 go_ret2
 exact⟨rfl,hb3⟩
theorem JV(g c:Nat)(w:World)(hc0:w.cell? ⟨g,0,none⟩=some (int i64 2))(hc1:w.cell? ⟨g,1,none⟩=some (int i64 3))(hg:g<w.heap.size):CallsIn FF 0 prog 81 #[.slice (some ⟨g,0,none⟩) 2 c] w fun e w'=>∃v,e=.returned (.tuple #[v,.bool true])∧w'.ownsRow w.heap.size 3 1 v 1 [int i64 1]∧Below w.heap.size w w':=by
 have e2:aB 2 10=[1]:=zD
 have e3:aB 3 10=[0,1]:=zD
 have HS2:=hid fun w=>by have:=kK 2 w zD;rw[e2] at this;exact this
 have AS:=hid fun w=>by have:=kK 3 w zD;rw[e3] at this;exact this
 have HL:=hid Ti
 obtain⟨i0,hi,hz0,hz1,hz2⟩:=info_parts Tryz.infoL
 have hi0:=hid hi
 clear hi e2 e3
 gi_enter func81,ntmps81
 gi_wp2
 refine wpIn_loop_rounds 3 ?_
 rw[roundsIn_succ]
 gi_wp2_with (first
  | (gi_at_call 96;refine(HS2.out w).mono ?_;rintro e w3 ⟨v,rfl,hown,hb3⟩;have Vt:=hid hown;obtain⟨g1,c1,rfl,aaj,aak⟩:=hown.form zD;clear hown)
  | (gi_at_builtin;refine aF rfl rfl rfl fun K5 iX=>?_;refine wp_append_lies _ _ _ _ rfl w3.heap.size 30 i0 _ 1 24 underlying72 hi0.out hz0 hz1 hz2 rfl zo (.slice none 0 0) 0 [] rfl ⟨rfl,.inl ⟨rfl,rfl⟩⟩ ⟨w3.heap.size,0,none⟩ 1 1 [_] rfl rfl (World.news_of_block (heap_alloc_new w3 _)) (by simp[Value.oneCell']) zo zU zo zs (w3.heap.size+1) zs ?_;intro pz nD w10 hown5 aM lG nI;refine iX _ _ ?_;clear iX K5))
 have QV:Hid (Below w.heap.size w w10):=hid ((Below.al hb3 _).trans (below_grown aM (by simp;have:=hb3.size;omega) (fun g hg=>by cases hg)))
 have QY:=hid (oC (aQ Vt.out (.cells #[.slice (some ⟨g1,0,none⟩) [(1:Int)].length c1] 30)) aM (fun g hg=>by simp[Value.ownBlock]))
 have xN:=hid hown5
 have Hd:=QV.out.size
 have TZ:w3.heap.size+1≤w10.heap.size:=by
  have:=(below_grown (B:=w3.heap.size) aM zs (fun g hg=>by cases hg)).size
  simpa using this
 have hc1':w10.cell? ⟨g,1,none⟩=some (int i64 3):=(QV.out.cell hg).trans hc1
 have aan:w3.heap.size≤pz:=(bR hown5 (g:=pz) rfl).1
 have hgg:g1<pz:=by have:=(bR hown5 (g:=pz) rfl).1;omega
 rw[roundsIn_succ]
 gi_wp2_with (first
  | (gi_at_call 96;refine(AS.out w10).mono ?_;rintro e w13 ⟨v,rfl,hown,uZ⟩;have AD:=hid hown;obtain⟨g2,c2,rfl,aal,aam⟩:=hown.form zD;clear hown)
  | (gi_at_builtin;refine aF rfl rfl rfl fun K5 iX=>?_;refine wp_append_lies _ _ _ _ rfl w3.heap.size 30 i0 _ 1 24 underlying72 hi0.out hz0 hz1 hz2 rfl zo (.slice (some ⟨pz,0,none⟩) 1 nD) 1 _ rfl (aQ (own_below xN.out uZ) _) ⟨w13.heap.size,0,none⟩ 1 1 [_] rfl rfl (World.news_of_block (heap_alloc_new w13 _)) (by simp[Value.oneCell']) zo zU zo (by have:=uZ.size;simp;omega) (w13.heap.size+1) zs ?_;intro oB cap4 w20 hown6 tC pn qT;refine iX _ _ ?_;clear iX K5))
 have dt:Below w3.heap.size w10 w20:=((uZ.mono zo).alloc (by have:=uZ.size;omega) _).trans (below_grown tC (by have:=uZ.size;simp;omega) (fun q hq=>by cases hq;omega))
 have L1:=oC (aQ (own_below QY.out uZ) (.cells #[.slice (some ⟨g2,0,none⟩) [(0:Int),1].length c2] 30)) tC (fun q hq e=>by cases hq;cases e;omega)
 have L2:=oC (aQ AD.out (.cells #[.slice (some ⟨g2,0,none⟩) [(0:Int),1].length c2] 30)) tC (fun q hq e=>by cases hq;cases e;omega)
 have k1:=L1.cells (g:=g1) rfl 0 (int i64 1) zs
 have k2:=L2.cells (g:=g2) rfl 0 (int i64 0) zs
 have k3:=hown6.cells (g:=oB) rfl 0 (.slice (some ⟨g1,0,none⟩) 1 c1) zs
 have k4:=hown6.cells (g:=oB) rfl 1 (.slice (some ⟨g2,0,none⟩) 2 c2) zs
 simp only[Addr.add] at k1 k2 k3 k4
 rw[roundsIn_succ]
 gi_wp2_with (gi_at_call 107;refine(HL.out oB cap4 g1 c1 g2 c2 w20 (by simpa using k3) (by simpa using k4) (by simpa using k1) (by simpa using k2)).mono ?_;rintro e w22 ⟨rfl,pw⟩)
 go_ret2
 refine⟨_,rfl,own_below L1 pw,Below.next (QV.out.trans (dt.mono ?_)) pw⟩
 have:=hb3.size
 omega
end
end Go.Proofs.YthaelabgfnnebaaGreat
