/- Place5 -/
import Derived.Test.YthaelabgfnnebaaGreatD3
import Derived.Test.YthaelabgfnnebaaGreatD4
import Derived.Test.YthaelabgfnnebaaGreatD5
set_option maxRecDepth 100000
set_option maxHeartbeats 16000000
set_option linter.unusedVariables false
set_option linter.unusedSectionVars false
set_option linter.unusedSimpArgs false
open Go.IntKind(i64)
open Go.Proofs.Tryz
open Go.Value(int)
namespace Go.Proofs.YthaelabgfnnebaaGreat
section
open Go Go.Conc Go.ConcN Go.cu Go.Conc.Lib Go.aO Go.ConcR.Gen Go.ConcN.Gen
open Go.ConcR (WgAt stA smA rd wr Payload wgBlock)
variable[Inhabited aV]
def Q0(f:FuncId):Prop:=f=3∨f=4∨f=5
def Te(f:FuncId):Nat:=if f=3 then 8 else if f=4 then 8 else if f=5 then 2 else 0
def oo(fr:Frame)(cs:List Frame):Prop:=cs=[]∧Q0 fr.fn∧fr.mode=.returning∧fr.defers=[]∧fr.kind=.normal
def nL(fr:Frame):Value:=fr.tmps.getD (Te fr.fn) undef
theorem fP{fr:Frame}{L:FuncId}{f:Func}{R:Nat}(hL:Tryz.prog.funcs[L]? =some f)(ht:f.results=#[.tmp R])(hi:Tryz.prog.inits.idxOf? L=none)(hR:Te L=R)(h1:fr.fn=L)(h2:fr.mode=.returning)(h3:fr.defers=[])(h4:fr.kind=.normal)(w:World):
 stepG prog true (G fr []) w=.ended (.done (nL fr)) w #[]:=by
 have hr:=results_tmp (fn:=f) ht fr.tmps prog w
 have he:(results f fr.tmps).events prog w #[]=#[]:=events_results_tmp (fn:=f) ht fr.tmps #[]
 obtain⟨fn,tmps,todo,defers,mode,kind,roundOf⟩:=fr
 simp only at h1 h2 h3 h4
 subst h1;subst h2;subst h3;subst h4
 have hi2:¬ (2:Nat)=fn:=fun e=>by subst e;simp at hi
 simp[nL,hR,G,stepG,unwind,hL,hr,he,seen,GStep.after,doReturn,hi2]
theorem Cw{fr:Frame}{cs:List Frame}(h:oo fr cs)(w:World):stepG prog true (G fr cs) w=.ended (.done (nL fr)) w #[]:=by
 obtain⟨rfl,h1,h2,h3,h4⟩:=h
 unfold Q0 at h1
 first
  | exact fP func3 rfl (iU zs) rfl h1 h2 h3 h4 w
  | exact fP func4 rfl (iU zs) rfl h1 h2 h3 h4 w
  | exact fP func5 rfl (iU zs) rfl h1 h2 h3 h4 w
  | rcases h1 with h1|h1|h1
    ·exact fP func3 rfl (iU zs) rfl h1 h2 h3 h4 w
    ·exact fP func4 rfl (iU zs) rfl h1 h2 h3 h4 w
    ·exact fP func5 rfl (iU zs) rfl h1 h2 h3 h4 w
theorem Tx{dead:Nat→Prop}{m m':Machine}(h:StepsIn (Machine.fenced prog FF) prog m m'):∀ {a b:dS.Pt},m=a.m→m'=b.m→a.Ok prog FF.fn ⟨dead,vk⟩→StepsIn (dS.Q6 prog FF oo) prog m m':=by
 induction h with
 | refl=>exact fun _ _ _=>.refl _
 | head hI hs hp ih=>
   intro a b h1 h2 ok
   subst h1
   subst h2
   obtain⟨c,ops,rfl,hc,_⟩:=dS.Ow (DL dead) (fun _ h=>h) rC ok hI hs hp
   refine .head ⟨hI,fun fr cs hg hst=>?_⟩ hs (ih rfl rfl hc)
   have e:G a.fr a.cs=G fr cs:=by simpa [dS.Pt.m,solo] using hg
   have hT:=Cw hst a.w
   rw[← e] at hT
   rw[dS.Pt.m,step,stepT_solo rfl,dS.aY hT] at hs
   cases hs
structure Behind(n cb N:Nat)(bit:Nat→Bool)(w v:World):Prop where
 size:N+4≤v.heap.size
 old:∀b,b<N→v.heap[b]? =w.heap[b]?
 box:v.heap[N]? =some (.cells #[fB cb] 82)
 chan:∃ (buf:Array Value) (s:Nat) (q:Nat),v.heap[N+1]? =some (.chan n buf false s q false)∧buf.toList.Perm (((List.range n).filter bit).map fun(i:Nat)=>int i64 i)
 aad:v.heap[N+2]? =some (.cells #[.chan (some (N+1))] 154)
 env:v.os=w.os∧v.output=w.output
noncomputable abbrev yF (a:Act):Frame:=(base 82).at (a.put ((oU[0]?).bind (·.dst)) (.tuple #[])) (.inRegion oU [] :: [.code lV])
noncomputable abbrev kN (n cb:Nat):Frame:=(base 82).at ⟨#[int i64 n,fB cb,undef,undef,undef,undef,undef,undef,undef,undef,undef,undef,undef,undef,undef,undef,undef,undef,undef,undef,undef,undef,undef,undef,undef,undef,undef,undef,undef,undef,undef,undef],[]⟩ [.code tV]
theorem s8:oU.all (dS.mE prog)=true:=zk
theorem fo:dS.cZ prog lV=true:=zk
theorem YL{n cb:Nat}(hn:n<2147483648){cs:List Frame}{bit:Nat→Bool}{a:dS.Pt}{w:World}{Z0:Nat→Prop}{va:World}(ok:a.Ok prog FF.fn ⟨Z0,vk⟩)(hva:dS.E5 ⟨Z0,vk⟩ (fun q=>va.heap[q]?) a.w va)(hcells:∀b o,Z0 b→va.heap[b]? =some o→∀c t f,o≠.cells c t f)(hp:StepsIn (Machine.fenced prog FF) prog a.m (solo (G (kN n cb) cs) w))
 {F:Fence}(hF:gJ prog F.fn)(hin:∀g,F.fn g→Tryz.prog.inits.idxOf? g=none)(hal:F.alive=true){m:Nat}(hroom:F.room (1+m)){D:Nat→Prop}(hcl:Closed D w)(hcb:D cb)
 (hcall:∀i:Nat,i<n→∀σ:Tape,CallsIn F m prog 83 #[int i64 i,pt cb] (on (vF D w) σ) (fun e _=>e=.returned (.bool (bit i)))){PV:Value→World→Prop}
 (hback:∀ac:Act,gR n (fB cb) w.heap.size ac→∀v:World,Behind n cb w.heap.size bit w v→∀σ:Tape,∃b:dS.Pt,StepsIn (Machine.fenced prog FF) prog ((⟨yF ac,cs,v⟩:dS.Pt).on σ).m b.m∧oo b.fr b.cs∧∀u:World,u.heap.size=b.w.heap.size→(∀q,q<w.heap.size→¬ Z0 q→u.heap[q]? =b.w.heap[q]?)→(∀q,Z0 q→u.heap[q]? =va.heap[q]?)→u.os=b.w.os→u.output=b.w.output→PV (nL b.fr) u):
 ∃N last o w' t',runNT prog (N+1) (solo (G a.fr a.cs) va) #[]=(.ended o w',t')∧runN prog N (solo (G a.fr a.cs) va)=.next last∧step prog last=.ended o w'∧Conc.Good prog PV last o w' t':=by
 obtain⟨k0,wr,t0,hr0,wY,Tw,hlt,hsz0⟩:=dS.BU (DL _) rC (fun _ h=>h) hp (a:=a) (b:=⟨kN n cb,cs,w⟩) rfl rfl ok va hva #[] (dS.iq.nil _)
 have hws:wr.heap.size=w.heap.size:=wY.pO.size
 have hz0:∀b,Z0 b→b<w.heap.size:=fun b hb=>Tw.lv.in hb
 have hza:∀b,Z0 b→∃o,va.heap[b]? =some o∧wr.heap[b]? =some o:=fun b hb=>by
  have h1:b<va.heap.size:=by rw[hva.pO.size];exact ok.lv.in hb
  refine⟨_,Array.getElem?_eq_getElem h1,wY.pO.kept b _ hb (Array.getElem?_eq_getElem h1) (hcells b _ hb (Array.getElem?_eq_getElem h1))⟩
 have hdz:∀b,D b→w.heap[b]? =wr.heap[b]?:=fun b hb=>by
  obtain⟨c,e,f,h1,_⟩:=hcl b hb
  have hn0:¬ Z0 b:=fun h=>by
   have h2:=Tw.lv.dead b h
   rw[show(⟨kN n cb,cs,w⟩:dS.Pt).w=w from rfl,h1] at h2
   simp[dS.X0] at h2
  exact(wY.pO.same b hn0).symm
 have GP:dS.iq t0 wr.heap.size:=by rw[hws];exact hlt
 obtain⟨w1,hR,k1,μ,M,t1,hr1,hI⟩:=ib (cs:=cs) hn GP hF hin hal hroom hcl hdz hcb hcall
 rw[hws] at hR hI
 have hlv:=Tw.lv
 obtain⟨N2,last,o,w',t',h1,h2,h3,h4⟩:=dS.NG (S:=qW n (fB cb) w.heap.size cs (dR w.heap.size w1) bit wr) (jh:=vk) (Z0:=Z0) (Fc:=FF) (St:=oo) (PV:=PV) (Post:=fun b=>∀u:World,u.heap.size=b.w.heap.size→(∀q,q<w.heap.size→¬ Z0 q→u.heap[q]? =b.w.heap[q]?)→(∀q,Z0 q→u.heap[q]? =va.heap[q]?)→u.os=b.w.os→u.output=b.w.output→PV (nL b.fr) u)
  (Rs:=fun R=>∃ac,gR n (fB cb) w.heap.size ac∧R=qm (base 82) ac oU 0 [] [.code lV] cs) rC (ZP hn hR) (fun g ⟨ac,h1,h2⟩=>⟨_,⟨ac,h1,rfl⟩,h2⟩) (by
  rintro R ⟨ac,hac,hRe⟩ w2 buf s z hv hch hperm Sd
  subst hRe
  classical
  have hsz1:w1.heap.size=w.heap.size+4:=hR.1
  let S:=qW n (fB cb) w.heap.size cs (dR w.heap.size w1) bit wr
  let Z:dS.Env:=dS.Dead' S vk Z0 w2
  let v:World:={w2 with heap:=w2.heap.mapIdx fun b o=>if Z.dead b then dS.X0 b else o }
  have Qj:∀b o,¬ Z0 b→dR w.heap.size w1 b=some o→w2.heap[b]? =some o∧¬ Z.dead b:=fun b o hz h=>⟨hv.tab b o h,fun hd=>hd.1.elim (fun h2=>h2 (by show dR _ _ b≠none;rw[h];simp)) hz⟩
  have hnz:∀b,w.heap.size≤b→¬ Z0 b:=fun b hb hz=>by have:=hz0 b hz;omega
  have hin':∀b,¬ Z.dead b→v.heap[b]? =w2.heap[b]?:=fun b hb=>by
   show(w2.heap.mapIdx fun b o=>if Z.dead b then dS.X0 b else o)[b]? =_
   rw[Array.getElem?_mapIdx]
   cases w2.heap[b]? <;> simp[hb]
  have hout:∀b,Z.dead b→v.heap[b]? =some (dS.X0 b):=fun b hb=>by
   show(w2.heap.mapIdx fun b o=>if Z.dead b then dS.X0 b else o)[b]? =_
   rw[Array.getElem?_mapIdx,Array.getElem?_eq_getElem hb.2.2]
   simp[hb]
  have hvs:v.heap.size=w2.heap.size:=by show(w2.heap.mapIdx _).size=_;simp
  have hold:∀b,b<w.heap.size→¬ Z0 b→∃o,w.heap[b]? =some o∧dR w.heap.size w1 b=some o:=fun b hb hz=>by
   refine⟨w.heap[b],Array.getElem?_eq_getElem hb,?_⟩
   rw[mP zo zo,hR.2.1 b hb,wY.pO.same b hz]
   exact Array.getElem?_eq_getElem hb
  have Fl:∀b,Z0 b→w2.heap[b]? =va.heap[b]?:=fun b hz=>by
   have hb:=hz0 b hz
   obtain⟨o,h1,h2⟩:=hza b hz
   rw[h1]
   refine hv.tab b o ?_
   show dR w.heap.size w1 b=some o
   rw[mP zo zo,hR.2.1 b hb]
   exact h2
  have jM:dR w.heap.size w1 w.heap.size=some (.cells #[fB cb] 82):=by rw[mP zo zo];exact hR.2.2.1
  have Gd:dR w.heap.size w1 (w.heap.size+2)=some (.cells #[.chan (some (w.heap.size+1))] 154):=by rw[mP zo zo];exact hR.2.2.2.2.1
  have E3:¬ Z.dead (w.heap.size+1):=fun hd=>hd.2.1 rfl
  have hbx:=Qj _ _ (hnz _ (Nat.le_refl _)) jM
  have pM:=Qj _ _ (hnz _ (Nat.le_add_right _ _)) Gd
  have E0:Behind n cb w.heap.size bit w v:=by
   obtain⟨st,sm,hl⟩:=hv.live
   have hlt:w.heap.size+3<w2.heap.size:=(Array.getElem?_eq_some_iff.1 hl).1
   refine⟨zo,fun b hb=>?_,?_,⟨buf,s,z,?_,hperm⟩,?_,hv.env.1.trans wY.pO.os,hv.env.2.1.trans wY.pO.output⟩
   ·by_cases hz:Z0 b
    ·have hd:Z.dead b:=⟨.inr hz,fun e=>by have e2:b=w.heap.size+1:=e;omega,zo⟩
     rw[hout b hd]
     exact(Tw.lv.dead b hz).symm
    ·obtain⟨o,h1,h2⟩:=hold b hb hz
     rw[hin' b (Qj b o hz h2).2,(Qj b o hz h2).1,h1]
   ·rw[hin' _ hbx.2,hbx.1]
   ·rw[hin' _ E3];exact hch
   ·rw[hin' _ pM.2,pM.1]
  have hplain:∀o,dS.Plain ⟨Z0,vk⟩ o→dS.Plain Z o:=fun o h=>by cases o <;> exact h
  have hok:(⟨yF ac,cs,v⟩:dS.Pt).Ok prog FF.fn Z:=by
   refine⟨⟨by show FF.fn 82;simp,fun i hi=>?_,fun d hd=>?_,rfl⟩,Tw.cs,⟨fun b hb=>hout b hb,fun b o hb ho=>?_⟩⟩
   ·have hi':i=.inRegion oU []∨i=.code lV:=by
     have h0:i∈[Item.inRegion oU [],Item.code lV]:=hi
     simpa using h0
    rcases hi' with e|e
    ·rw[e];exact s8
    ·rw[e];exact fo
   ·obtain⟨_,_,_,_,_,_,rfl⟩:=hac
    have h0:d∈([]:List Deferred):=by
     have h1:∀T:Array Value,(Act.put ⟨T,[]⟩ ((oU[0]?).bind (·.dst)) (.tuple #[])).defers=[]:=fun T=>by
      cases (oU[0]?).bind (·.dst) <;> rfl
     rw[← h1]
     exact hd
    simp at h0
   ·rw[hin' b hb] at ho
    have hlt:b<w2.heap.size:=(Array.getElem?_eq_some_iff.1 ho).1
    by_cases hc:b=w.heap.size+1
    ·subst hc
     have h2:w2.heap[w.heap.size+1]? =_:=hch
     rw[h2] at ho
     cases ho
     trivial
    ·have hcb:S.Cb b:=Classical.byContradiction fun h=>hb ⟨.inl h,hc,hlt⟩
     have rh:¬ Z0 b:=fun h=>hb ⟨.inr h,hc,hlt⟩
     cases ht:dR w.heap.size w1 b with
     | none=>exact absurd ht hcb
     | some o'=>
       have h2:=hv.tab b o' ht
       rw[h2] at ho
       cases ho
       have h3:=(yE ht).1
       have h4:=(yE ht).2
       have h5:b<w.heap.size+4:=by rw[← hsz1];exact(Array.getElem?_eq_some_iff.1 h3).1
       by_cases h6:b<w.heap.size
       ·rw[hR.2.1 b h6,wY.pO.same b rh] at h3
        exact hplain _ (hlv.live b _ rh h3)
       ·have h7:b=w.heap.size∨b=w.heap.size+2:=zo
        rcases h7 with h7|h7
        ·subst h7;rw[jM] at ht;cases ht;trivial
        ·subst h7;rw[Gd] at ht;cases ht;trivial
  refine⟨⟨yF ac,cs,v⟩,rfl,DL _,hok,⟨hvs.symm,fun b hb=>(hin' b hb).symm,rfl,rfl,fun b o _ hk _=>hk⟩,fun σ=>?_,fun b v2 hst hpost pH jN=>?_⟩
  ·obtain⟨b,hb1,hb2,hb3⟩:=hback ac hac v E0 σ
   exact⟨b,Tx (dead:=Z.dead) hb1 rfl rfl (hok.on σ),hb2,hb3⟩
  ·refine⟨nL b.fr,#[],Cw hst v2,fun e he=>by simp at he,hpost v2 jN.size (fun q hq hz=>jN.same q fun hd=>?_) (fun q hz=>?_) jN.os jN.output⟩
   ·obtain⟨o,_,h2⟩:=hold q hq hz
    exact(Qj q o hz h2).2 hd
   ·have hb:=hz0 q hz
    obtain⟨o,h1,h2⟩:=hza q hz
    have hlt2:q<w2.heap.size:=by obtain⟨st,sm,hl⟩:=hv.live;have:w.heap.size+3<w2.heap.size:=(Array.getElem?_eq_some_iff.1 hl).1;omega
    rw[h1]
    exact jN.kept q o ⟨.inr hz,fun e=>by have e2:q=w.heap.size+1:=e;omega,hlt2⟩ ((Fl q hz).trans h1) (hcells q o hz h1)) hI
 have whole:∀k,runNT prog (k0+(k1+k)) (solo (G a.fr a.cs) va) #[]=runNT prog k M t1:=fun k=>by
  rw[runNT_add,hr0]
  show runNT prog (k1+k) (solo (G (kN n cb) cs) wr) t0=_
  rw[runNT_add]
  have hr1':runNT prog k1 (solo (G (kN n cb) cs) wr) t0=(.next M,t1):=hr1
  rw[hr1']
 refine⟨k0+(k1+N2),last,o,w',t',?_,?_,h3,h4⟩
 ·rw[show k0+(k1+N2)+1=k0+(k1+(N2+1)) by omega,whole]
  exact h1
 ·rw[← runNT_fst prog _ _ #[],whole,runNT_fst]
  exact h2
end
end Go.Proofs.YthaelabgfnnebaaGreat
