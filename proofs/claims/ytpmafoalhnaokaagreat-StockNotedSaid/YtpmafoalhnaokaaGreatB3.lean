/- Place3 Place4 -/
import Derived.Test.YtpmafoalhnaokaaGreatB0
import Derived.Test.YtpmafoalhnaokaaGreatB2
set_option maxRecDepth 100000
set_option maxHeartbeats 16000000
set_option linter.unusedVariables false
set_option linter.unusedSectionVars false
set_option linter.unusedSimpArgs false
open Go.IntKind(i64)
open Go.Proofs.Tryz
open Go.Value(int)
namespace Go.Proofs.YtpmafoalhnaokaaGreat
section
open Go Go.Conc Go.ConcN Go.cu Go.Conc.Lib Go.aP Go.ConcR.Gen Go.ConcN.Gen
open Go.ConcR (WgAt stA smA rd wr Payload wgBlock)
variable[Inhabited aV]
def dW(E:Event→Prop)(a:Goroutine)(w:World)(a':Goroutine)(w':World):Prop:=
 ∀t:Trace,∃k t',runNT prog k (solo a w) t=(.next (solo a' w'),t')∧∀op∈t',op∈t∨(op.g=0∧∃e,E e∧op.act=MemAct.ofEvent e)
theorem dW.refl{E:Event→Prop}{a:Goroutine}{w:World}:dW E a w a w:=fun t=>⟨0,t,rfl,fun op h=>.inl h⟩
theorem dW.step{E:Event→Prop}{fr:Frame}{cs:List Frame}{a a':Goroutine}{w w1 w':World}{es:Array Event}(h:stepG prog true (G fr cs) w=.go a w1 es)(he:∀e∈es,E e)(L:dW E a w1 a' w'):dW E (G fr cs) w a' w':=fun t=>by
 obtain⟨k,t',h1,h2⟩:=L (t ++ MemOp.ofEvents 0 fr.fn fr.place es)
 refine⟨k+1,t',?_,fun op hop=>?_⟩
 ·have hT:stepT prog (solo (G fr cs) w)=(.next (solo a w1),MemOp.ofEvents 0 fr.fn fr.place es):=by rw[stepT_solo rfl,runT_solo_go h];rfl
  simp only[runNT,hT]
  exact h1
 ·rcases h2 op hop with h3|h3
  ·rcases Array.mem_append.1 h3 with h4|h4
   ·exact .inl h4
   ·obtain⟨e,h5,rfl⟩:=Go.Conc.mem_ofEvents h4
    exact .inr ⟨rfl,e,he e h5,rfl⟩
  ·exact .inr h3
theorem dW.ctl{E:Event→Prop}{fr:Frame}{cs:List Frame}{a a':Goroutine}{w w1 w':World}(h:stepG prog true (G fr cs) w=.go a w1)(L:dW E a w1 a' w'):dW E (G fr cs) w a' w':=L.step h zs
theorem dW.val{E:Event→Prop}{b:Frame}{a:Act}{k:List Item}{cs:List Frame}{ops:Array Oper}{i:Nat}{rest:List Nat}{o:Oper}{v:Value}{a':Goroutine}{w w1 w':World}(ho:ops[i]? =some o)(hw:Region.wanted o (yielded ops a.tmps)=true)(hk:b.kind≠.early)
 (hr:(execOp a.eval o).run prog w=.ok (.value v) w1)(he:(execOp a.eval o).events prog w #[]=#[])(L:dW E (G (b.at (a.put o.dst v) (.inRegion ops rest :: k)) cs) w1 a' w'):dW E (G (b.at a (.inRegion ops (i :: rest) :: k)) cs) w a' w':=
 L.step (stepG_value ho hw hk hr) (by rw[listed_nil he];simp)
theorem dW.pure{E:Event→Prop}{b:Frame}{a:Act}{k:List Item}{cs:List Frame}{ops:Array Oper}{i:Nat}{rest:List Nat}{o:Oper}{v:Value}{a':Goroutine}{w w':World}(ho:ops[i]? =some o)(hw:Region.wanted o (yielded ops a.tmps)=true)(hk:b.kind≠.early)
 (hr:(execOp a.eval o).run prog w=.ok (.value v) w)(he:(execOp a.eval o).events prog w #[]=#[])(L:dW E (G (b.at (a.put o.dst v) (.inRegion ops rest :: k)) cs) w a' w'):dW E (G (b.at a (.inRegion ops (i :: rest) :: k)) cs) w a' w':=dW.val ho hw hk hr he L
theorem TI:∃i,Tryz.prog.info? 3=some i∧i.bytes=8:=by
 have h:(Tryz.prog.info? 3).map (·.bytes)=some 8:=zk
 obtain⟨i,hi,hb⟩:=Option.map_eq_some_iff.1 h
 exact⟨i,hi,hb⟩
theorem mkn{n:Nat}(hn:n<2147483648)(w:World):(Instr.makeChan 170 (int i64 n)).run prog w=.ok (.chan (some w.heap.size)) (w.alloc (.chan n #[] false 0 0 false)):=by
 obtain⟨i,hi,hb⟩:=TI
 exact run_makeChan (P:=prog) (w:=w) underlying170 hi .i64 n zo (by rw[hb];omega)
theorem We{n:Nat}(hn:n<2147483648)(w:World)(es:Array Event):(Instr.makeChan 170 (int i64 n)).events prog w es=es:=by
 obtain⟨i,hi,hb⟩:=TI
 exact events_makeChan (P:=prog) (w:=w) underlying170 hi .i64 n zo (by rw[hb];omega) es
def Reached(n cb N:Nat)(w w':World):Prop:=w'.heap.size=N+4∧(∀b,b<N→w'.heap[b]? =w.heap[b]?)∧w'.heap[N]? =some (.cells #[fG cb] 103)∧w'.heap[N+1]? =some (.chan n #[] false 0 0 false)∧
 w'.heap[N+2]? =some (.cells #[.chan (some (N+1))] 170)∧WgAt 180 (N+3) w' 0 0∧w'.os=w.os∧w'.output=w.output∧w'.tape=w.tape
noncomputable def uU:Code:=match Tryz.f99.body with
 | some c=>c
 | none=>.skip
theorem bp{n cb:Nat}(hn:n<2147483648){cs:List Frame}{w:World}:
 ∃w',Reached n cb w.heap.size w w'∧dW (fun e=>e=⟨.cell ⟨w.heap.size+2,0,none⟩,true,false⟩) (G ((base 99).at ⟨#[int i64 n,fG cb,undef,undef,undef,undef,undef,undef,undef,undef,undef,undef,undef,undef,undef,undef,undef,undef,undef,undef,undef,undef,undef,undef,undef,undef,undef,undef,undef,undef,undef,undef],[]⟩ [.code uU]) cs) w
  (rC n (fG cb) w.heap.size cs 0 undef undef undef undef undef undef) w':=by
 have s1:∀ (w:World) (o:Obj),(w.alloc o).heap.size=w.heap.size+1:=fun w o=>by show(w.heap.push o).size=_;exact Array.size_push ..
 have s2:∀ (w:World) (o:Obj) (b:Nat),b<w.heap.size→(w.alloc o).heap[b]? =w.heap[b]?:=fun w o b hb=>by
  show(w.heap.push o)[b]? =_
  rw[Array.getElem?_push,if_neg (Nat.ne_of_lt hb)]
 have s3:∀ (w:World) (o:Obj),(w.alloc o).heap[w.heap.size]? =some o:=Im
 have s4:∀ (w:World) (o:Obj),(w.alloc o).os=w.os∧(w.alloc o).output=w.output∧(w.alloc o).tape=w.tape:=fun w o=>⟨rfl,rfl,rfl⟩
 have key:∀w1,w1=w.alloc (.cells #[fG cb] 103)→∀w2,w2=w1.alloc (.chan n #[] false 0 0 false)→∀w3,w3=w2.alloc (.cells #[.chan none] 170)→∀w4,w4=w3.setCell ⟨w.heap.size+2,0,none⟩ (.chan (some (w.heap.size+1)))→∀w5,w5=w4.alloc (wgBlock 180 0 0)→
  Reached n cb w.heap.size w w5∧dW (fun e=>e=⟨.cell ⟨w.heap.size+2,0,none⟩,true,false⟩) (G ((base 99).at ⟨#[int i64 n,fG cb,undef,undef,undef,undef,undef,undef,undef,undef,undef,undef,undef,undef,undef,undef,undef,undef,undef,undef,undef,undef,undef,undef,undef,undef,undef,undef,undef,undef,undef,undef],[]⟩ [.code uU]) cs) w
  (rC n (fG cb) w.heap.size cs 0 undef undef undef undef undef undef) w5:=by
  intro w1 e1 w2 e2 w3 e3 w4 e4 w5 e5
  have z1:w1.heap.size=w.heap.size+1:=by rw[e1];exact s1 _ _
  have z2:w2.heap.size=w.heap.size+2:=by rw[e2,s1,z1]
  have z3:w3.heap.size=w.heap.size+3:=by rw[e3,s1,z2]
  have z4:w4.heap.size=w.heap.size+3:=by rw[e4];simp only[World.setCell,Array.size_modify];exact z3
  have z5:w5.heap.size=w.heap.size+4:=by rw[e5,s1,z4]
  have c3:w3.heap[w.heap.size+2]? =some (.cells #[.chan none] 170):=by rw[e3,← z2];exact s3 _ _
  have o4:∀b,b≠w.heap.size+2→w4.heap[b]? =w3.heap[b]?:=fun b hb=>by
   rw[e4]
   simp only[World.setCell,Array.getElem?_modify]
   rw[if_neg zo]
  have c4:w4.heap[w.heap.size+2]? =some (.cells #[.chan (some (w.heap.size+1))] 170):=by
   rw[e4]
   simp only[World.setCell,Array.getElem?_modify,if_true,c3]
   rfl
  constructor
  ·refine⟨z5,fun b hb=>?_,?_,?_,?_,?_,?_,?_,?_⟩
   ·rw[e5,s2 _ _ _ zo,o4 _ zo,e3,s2 _ _ _ zo,e2,s2 _ _ _ zo,e1,s2 _ _ _ hb]
   ·rw[e5,s2 _ _ _ zo,o4 _ zo,e3,s2 _ _ _ zo,e2,s2 _ _ _ zo,e1,s3]
   ·rw[e5,s2 _ _ _ zo,o4 _ zo,e3,s2 _ _ _ zo,e2,← z1,s3]
   ·rw[e5,s2 _ _ _ zo,c4]
   ·show w5.heap[w.heap.size+3]? =_
    rw[e5,← z4,s3]
   ·rw[e5,e4,e3,e2,e1];rfl
   ·rw[e5,e4,e3,e2,e1];rfl
   ·rw[e5,e4,e3,e2,e1];rfl
  ·simp only[uU,Tryz.f99]
   refine dW.ctl stepG_seq ?_
   refine dW.ctl stepG_region ?_
   simp only[List.size_toArray,List.length_cons,List.length_nil,Nat.reduceAdd,Nat.zero_add,List.range,List.range.loop]
   refine dW.val (v:=pt w.heap.size) (w1:=w1) rfl rfl (by k_ne) (by rw[e1];go_simp;rfl) (by simp[go_sem]) ?_
   walk_nrm
   refine dW.pure (v:=.slice none 0 0) rfl rfl (by k_ne) (by go_simp) (by simp[go_sem]) ?_
   walk_nrm
   refine dW.ctl stepG_region_end ?_
   refine dW.ctl stepG_seq ?_
   refine dW.ctl stepG_region ?_
   simp only[List.size_toArray,List.length_cons,List.length_nil,Nat.reduceAdd,Nat.zero_add,List.range,List.range.loop]
   refine dW.pure (v:=int i64 n) rfl rfl (by k_ne) (by go_simp) (by simp[go_sem]) ?_
   walk_nrm
   refine dW.val (v:=.chan (some (w.heap.size+1))) (w1:=w2) rfl rfl (by k_ne) (by rw[e2,← z1];go_simp;rw[mkn hn,s1];rfl) (by simp[go_sem,We hn]) ?_
   walk_nrm
   refine dW.val (v:=pt (w.heap.size+2)) (w1:=w3) rfl rfl (by k_ne) (by rw[e3,← z2];go_simp;rfl) (by simp[go_sem]) ?_
   walk_nrm
   have hc:w3.cell? ⟨w.heap.size+2,0,none⟩=some (.chan none):=by simp[World.cell?,c3]
   have hf:w3.frozen? ⟨w.heap.size+2,0,none⟩=false:=by simp[World.frozen?,c3]
   simp only[pt]
   refine dW.step (w1:=w4) (stepG_none rfl rfl (by k_ne) (by rw[e4];go_simp)) ?_ ?_
   ·rw[show listed prog _ _ _ w3=#[⟨.cell ⟨w.heap.size+2,0,none⟩,true,false⟩] from(congrArg (seen _ _) (by simp[go_sem,hc,hf])).trans (Ou _ zs)]
    simp
   walk_nrm
   refine dW.ctl stepG_region_end ?_
   refine dW.ctl stepG_seq ?_
   refine dW.ctl stepG_region ?_
   simp only[List.size_toArray,List.length_cons,List.length_nil,Nat.reduceAdd,Nat.zero_add,List.range,List.range.loop]
   refine dW.val (v:=pt (w.heap.size+3)) (w1:=w5) rfl rfl (by k_ne) (by rw[e5,← z4];go_simp;exact⟨rfl,rfl⟩) (by simp[go_sem]) ?_
   walk_nrm
   refine dW.ctl stepG_region_end ?_
   refine dW.ctl stepG_seq ?_
   refine dW.ctl stepG_seq ?_
   refine dW.ctl stepG_region ?_
   simp only[List.size_toArray,List.length_cons,List.length_nil,Nat.reduceAdd,Nat.zero_add,List.range,List.range.loop]
   refine dW.pure (v:=int i64 n) rfl rfl (by k_ne) (by go_simp) (by simp[go_sem]) ?_
   walk_nrm
   refine dW.pure (v:=int i64 0) rfl rfl (by k_ne) (by go_simp) (by simp[go_sem]) ?_
   walk_nrm
   refine dW.ctl stepG_region_end ?_
   refine dW.ctl stepG_block ?_
   refine dW.ctl stepG_loop ?_
   exact dW.refl
 exact⟨_,key _ rfl _ rfl _ rfl _ rfl _ rfl⟩
def dO(N:Nat)(w:World)(b:Nat):Option Obj:=if b=N+1∨b=N+3 then none else w.heap[b]?
section
variable{n cb N:Nat}{cs:List Frame}{bit:Nat→Bool}{w w':World}
theorem Ar{b:Nat}{o:Obj}(h:dO N w' b=some o):w'.heap[b]? =some o∧b≠N+1∧b≠N+3:=by
 unfold dO at h
 split at h
 ·cases h
 ·exact⟨h,zo,zo⟩
theorem nA{b:Nat}(h1:b≠N+1)(h3:b≠N+3):dO N w' b=w'.heap[b]?:=if_neg zo
theorem fh(hn:n<2147483648)(hR:Reached n cb N w w'):(rO n (fG cb) N cs (dO N w') bit w).Ok:=
 LZ (S:=rO n (fG cb) N cs (dO N w') bit w) OJ ⟨0⟩ (by show dO N w' N=_;rw[nA zo zo];exact hR.2.2.1) (by show dO N w' (N+2)=_;rw[nA zo zo];exact hR.2.2.2.2.1) (by show N≠N+2;omega) (by show dO N w' (N+3)=none;exact if_pos (.inr rfl)) (by show N+3≠N+1;omega) hn rfl rfl
theorem D4(hR:Reached n cb N w w'):(rO n (fG cb) N cs (dO N w') bit w).V0 w':=by
 obtain⟨h1,h2,h3,h4,h5,h6,h7,h8,h9⟩:=hR
 exact⟨⟨_,_,h6⟩,fun b o h=>(Ar h).1,⟨#[],0,0,h4⟩,h7,h8,h9⟩
theorem oR{wz:World}(hn:n<2147483648){t:Trace}(ht:dP.iH t w.heap.size){F:Fence}(hF:gP prog F.fn)(hin:∀g,F.fn g→Tryz.prog.inits.idxOf? g=none)(hal:F.alive=true){m:Nat}(hroom:F.room (1+m))
 {D:Nat→Prop}(hcl:Closed D wz)(hdz:∀b,D b→wz.heap[b]? =w.heap[b]?)(hcb:D cb)(hcall:∀i:Nat,i<n→∀σ:Tape,CallsIn F m prog 100 #[int i64 i,pt cb] (on (wK D wz) σ) (fun e _=>e=.returned (.bool (bit i)))):
 ∃w',Reached n cb w.heap.size w w'∧∃k μ M t',runNT prog k (solo (G ((base 99).at ⟨#[int i64 n,fG cb,undef,undef,undef,undef,undef,undef,undef,undef,undef,undef,undef,undef,undef,undef,undef,undef,undef,undef,undef,undef,undef,undef,undef,undef,undef,undef,undef,undef,undef,undef],[]⟩ [.code uU]) cs) w) t=(.next M,t')∧
  Inv (rO n (fG cb) w.heap.size cs (dO w.heap.size w') bit w) μ M t':=by
 obtain⟨w',hR,hL⟩:=bp (cb:=cb) hn (cs:=cs) (w:=w)
 refine⟨w',hR,?_⟩
 obtain⟨k,t',hrun,hops⟩:=hL t
 have hS:=fh (cs:=cs) (bit:=bit) hn hR
 have hv:=D4 (cs:=cs) (bit:=bit) hR
 have hD:∀b,D b→dO w.heap.size w' b=wz.heap[b]?:=fun b hb=>by
  obtain⟨c,e,f,h1,_⟩:=hcl b hb
  have he:=hdz b hb
  have hlt:b<w.heap.size:=(Array.getElem?_eq_some_iff.1 (he.symm.trans h1)).1
  rw[nA zo zo,hR.2.1 b hlt,he]
 have hwk:=Eg (cs:=cs) (bit:=bit) (w0:=w) hS (by rw[nA zo zo];exact hR.2.2.1) (by rw[nA zo zo];exact hR.2.2.2.2.1) hF hin hal hroom hcl hD hcb hcall
 have hsp:=fi hn hwk n 0 zo undef undef undef undef undef undef w' hv
 have hsz:w'.heap.size=w.heap.size+4:=hR.1
 have hall:dP.iH t' w'.heap.size∧∀op∈t',∀x,op.act.touch?=some x→¬ In (rO n (fG cb) w.heap.size cs (dO w.heap.size w') bit w).Sh x.loc:=by
  have Rg:∀b,(rO n (fG cb) w.heap.size cs (dO w.heap.size w') bit w).Sh b→b=w.heap.size+3∨b=w.heap.size+1:=fun b h=>h
  refine⟨fun op hop=>?_,fun op hop x hx=>?_⟩
  ·rcases hops op hop with h|⟨hg,e,rfl,ha⟩
   ·obtain⟨a1,a2,a3,a4⟩:=ht op h
    exact⟨a1,a2,a3,fun x hx=>(a4 x hx).le zo⟩
   ·rw[ha]
    refine⟨hg,⟨by simp[MemAct.ofEvent],by simp[MemAct.ofEvent]⟩,fun a=>by simp[MemAct.ofEvent],fun x hx=>?_⟩
    simp only[MemAct.ofEvent,MemAct.touch?,Option.some.injEq] at hx
    subst hx
    exact⟨fun a e=>by cases e;show w.heap.size+2<_;omega,fun r e=>by cases e⟩
  ·rcases hops op hop with h|⟨hg,e,rfl,ha⟩
   ·obtain⟨a1,a2,a3,a4⟩:=ht op h
    intro hin
    have:=a4 x hx
    cases hl:x.loc with
    | cell a=>rw[hl] at hin this;have h1:=this.1 a rfl;have h2:=Rg _ hin;omega
    | obj r=>rw[hl] at hin this;have h1:=this.2 r rfl;have h2:=Rg _ hin;omega
    | _=>rw[hl] at hin;exact hin
   ·rw[ha] at hx
    simp only[MemAct.ofEvent,MemAct.touch?,Option.some.injEq] at hx
    subst hx
    intro hin
    have h2:=Rg _ hin
    simp only at h2
    omega
 have RQ:∀b,(rO n (fG cb) w.heap.size cs (dO w.heap.size w') bit w).Cb b→b<w'.heap.size∧b≠w.heap.size+1∧b≠w.heap.size+3:=fun b hb=>by
  have hb':dO w.heap.size w' b≠none:=hb
  cases hx:dO w.heap.size w' b with
  | none=>exact absurd hx hb'
  | some o=>exact⟨(Array.getElem?_eq_some_iff.1 (Ar hx).1).1,(Ar hx).2⟩
 have jr:aP.Lay (fun _=>mE) (fun k=>if k=0 then(rO n (fG cb) w.heap.size cs (dO w.heap.size w') bit w).Cb else mE) (rO n (fG cb) w.heap.size cs (dO w.heap.size w') bit w).Sh w':=by
  refine⟨fun _ _ _ h=>h.elim,fun _ _ _ h=>h.elim,fun _ _ h=>h.elim,fun k b h hs=>?_,fun _ _ h=>h.elim,fun k b h=>?_,fun b hs=>?_⟩
  ·by_cases hk:k=0
   ·simp only[hk,if_true] at h
    have:=RQ b h
    have hs':b=w.heap.size+3∨b=w.heap.size+1:=hs
    omega
   ·simp only[hk,if_false] at h
    exact h
  ·by_cases hk:k=0
   ·simp only[hk,if_true] at h
    exact(RQ b h).1
   ·simp only[hk,if_false] at h
    exact h.elim
  ·have hs':b=w.heap.size+3∨b=w.heap.size+1:=hs
   omega
 obtain⟨μ,hI⟩:=dP.Qb (S:=rO n (fG cb) w.heap.size cs (dO w.heap.size w') bit w) (O:=fun _=>mE) (C:=fun k=>if k=0 then(rO n (fG cb) w.heap.size cs (dO w.heap.size w') bit w).Cb else mE) (t:=t')
  jr rfl rfl (fun k b hk=>⟨fun h=>h,fun h=>by simp only[show k≠0 by omega,if_false] at h;exact h⟩) hv hR.2.2.2.2.2.1 ⟨0,0,hR.2.2.2.1⟩ (CT.lone (fun op h=>(hall.1 op h).1) hall.2)
  (fun i a ha b hb=>by
   obtain⟨op,hop,hx⟩:=touch_of ha
   have:=(hall.1 op (Array.mem_of_getElem? hop)).2.2.2 a hx
   cases hl:a.loc with
   | cell c=>rw[hl] at hb this;have h1:=this.1 c rfl;have h2:c.block=b:=hb;omega
   | obj r=>rw[hl] at hb this;have h1:=this.2 r rfl;have h2:r=b:=hb;omega
   | _=>rw[hl] at hb;exact hb.elim)
  (fun i ha=>by
   obtain⟨op,hop,hx⟩:=Option.map_eq_some_iff.1 ha
   exact(hall.1 op (Array.mem_of_getElem? hop)).2.2.1 _ hx)
  (by
   have:=Deaf_still #[] 0 t' fun op h=>(hall.1 op h).2.1
   rw[Array.empty_append] at this
   rw[this]
   rfl)
  (fun op h hg=>absurd (hall.1 op h).1 hg) hsp none
 exact⟨k,μ,_,t',hrun,hI⟩
end
end
end Go.Proofs.YtpmafoalhnaokaaGreat
