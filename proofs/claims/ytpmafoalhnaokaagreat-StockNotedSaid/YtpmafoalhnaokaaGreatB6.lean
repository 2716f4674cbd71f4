/- Place5 -/
import Derived.Test.YtpmafoalhnaokaaGreatB3
import Derived.Test.YtpmafoalhnaokaaGreatB4
import Derived.Test.YtpmafoalhnaokaaGreatB5
set_option maxRecDepth 100000
set_option maxHeartbeats 16000000
set_option linter.unusedVariables false
set_option linter.unusedSectionVars false
set_option linter.unusedSimpArgs false
open Go.IntKind(i64)
open Go.Proofs.Tryz
open Go.Value(int)
namespace Go.Proofs.YtpmafoalhnaokaaGreat
section
open Go Go.Conc Go.ConcN Go.cu Go.Conc.Lib Go.aP Go.ConcR.Gen Go.ConcN.Gen
open Go.ConcR (WgAt stA smA rd wr Payload wgBlock)
variable[Inhabited aV]
def Td(f:FuncId):Prop:=f=3∨f=4
def UY(f:FuncId):Nat:=if f=3 then 10 else if f=4 then 8 else 0
def oK(fr:Frame)(cs:List Frame):Prop:=cs=[]∧Td fr.fn∧fr.mode=.returning∧fr.defers=[]∧fr.kind=.normal
def nX(fr:Frame):Value:=fr.tmps.getD (UY fr.fn) undef
theorem jG{fr:Frame}{L:FuncId}{f:Func}{R:Nat}(hL:Tryz.prog.funcs[L]? =some f)(ht:f.results=#[.tmp R])(hi:Tryz.prog.inits.idxOf? L=none)(hR:UY L=R)(h1:fr.fn=L)(h2:fr.mode=.returning)(h3:fr.defers=[])(h4:fr.kind=.normal)(w:World):
 stepG prog true (G fr []) w=.ended (.done (nX fr)) w #[]:=by
 have hr:=results_tmp (fn:=f) ht fr.tmps prog w
 have he:(results f fr.tmps).events prog w #[]=#[]:=events_results_tmp (fn:=f) ht fr.tmps #[]
 obtain⟨fn,tmps,todo,defers,mode,kind,roundOf⟩:=fr
 simp only at h1 h2 h3 h4
 subst h1;subst h2;subst h3;subst h4
 have hi2:¬ (2:Nat)=fn:=fun e=>by subst e;simp at hi
 simp[nX,hR,G,stepG,unwind,hL,hr,he,seen,GStep.after,doReturn,hi2]
theorem DK{fr:Frame}{cs:List Frame}(h:oK fr cs)(w:World):stepG prog true (G fr cs) w=.ended (.done (nX fr)) w #[]:=by
 obtain⟨rfl,h1,h2,h3,h4⟩:=h
 unfold Td at h1
 first
  | exact jG func3 rfl (lS zs) rfl h1 h2 h3 h4 w
  | exact jG func4 rfl (lS zs) rfl h1 h2 h3 h4 w
  | rcases h1 with h1|h1
    ·exact jG func3 rfl (lS zs) rfl h1 h2 h3 h4 w
    ·exact jG func4 rfl (lS zs) rfl h1 h2 h3 h4 w
theorem Vn{dead:Nat→Prop}{m m':Machine}(h:StepsIn (Machine.fenced prog FF) prog m m'):∀ {a b:dP.Pt},m=a.m→m'=b.m→a.Ok prog FF.fn ⟨dead,wD⟩→StepsIn (dP.Tf prog FF oK) prog m m':=by
 induction h with
 | refl=>exact fun _ _ _=>.refl _
 | head hI hs hp ih=>
   intro a b h1 h2 ok
   subst h1
   subst h2
   obtain⟨c,ops,rfl,hc,_⟩:=dP.Qh (EG dead) (fun _ h=>h) rZ ok hI hs hp
   refine .head ⟨hI,fun fr cs hg hst=>?_⟩ hs (ih rfl rfl hc)
   have e:G a.fr a.cs=G fr cs:=by simpa [dP.Pt.m,solo] using hg
   have hT:=DK hst a.w
   rw[← e] at hT
   rw[dP.Pt.m,step,stepT_solo rfl,dP.aY hT] at hs
   cases hs
structure Behind(n cb N:Nat)(bit:Nat→Bool)(w v:World):Prop where
 size:N+4≤v.heap.size
 old:∀b,b<N→v.heap[b]? =w.heap[b]?
 box:v.heap[N]? =some (.cells #[fG cb] 103)
 chan:∃ (buf:Array Value) (s:Nat) (q:Nat),v.heap[N+1]? =some (.chan n buf false s q false)∧buf.toList.Perm (((List.range n).filter bit).map fun(i:Nat)=>int i64 i)
 aas:v.heap[N+2]? =some (.cells #[.chan (some (N+1))] 170)
 env:v.os=w.os∧v.output=w.output
noncomputable abbrev Au (a:Act):Frame:=(base 99).at (a.put ((p8[0]?).bind (·.dst)) (.tuple #[])) (.inRegion p8 [] :: [.code mo])
noncomputable abbrev kU (n cb:Nat):Frame:=(base 99).at ⟨#[int i64 n,fG cb,undef,undef,undef,undef,undef,undef,undef,undef,undef,undef,undef,undef,undef,undef,undef,undef,undef,undef,undef,undef,undef,undef,undef,undef,undef,undef,undef,undef,undef,undef],[]⟩ [.code uU]
theorem B0:p8.all (dP.mV prog)=true:=zk
theorem mL:dP.dn prog mo=true:=zk
theorem bo{n cb:Nat}(hn:n<2147483648){cs:List Frame}{bit:Nat→Bool}{a:dP.Pt}{w:World}{Z0:Nat→Prop}{va:World}(ok:a.Ok prog FF.fn ⟨Z0,wD⟩)(hva:dP.Gq ⟨Z0,wD⟩ (fun q=>va.heap[q]?) a.w va)(hcells:∀b o,Z0 b→va.heap[b]? =some o→∀c t f,o≠.cells c t f)(hp:StepsIn (Machine.fenced prog FF) prog a.m (solo (G (kU n cb) cs) w))
 {F:Fence}(hF:gP prog F.fn)(hin:∀g,F.fn g→Tryz.prog.inits.idxOf? g=none)(hal:F.alive=true){m:Nat}(hroom:F.room (1+m)){D:Nat→Prop}(hcl:Closed D w)(hcb:D cb)
 (hcall:∀i:Nat,i<n→∀σ:Tape,CallsIn F m prog 100 #[int i64 i,pt cb] (on (wK D w) σ) (fun e _=>e=.returned (.bool (bit i)))){PV:Value→World→Prop}
 (hback:∀ac:Act,oA n (fG cb) w.heap.size ac→∀v:World,Behind n cb w.heap.size bit w v→∀σ:Tape,∃b:dP.Pt,StepsIn (Machine.fenced prog FF) prog ((⟨Au ac,cs,v⟩:dP.Pt).on σ).m b.m∧oK b.fr b.cs∧∀u:World,u.heap.size=b.w.heap.size→(∀q,q<w.heap.size→¬ Z0 q→u.heap[q]? =b.w.heap[q]?)→(∀q,Z0 q→u.heap[q]? =va.heap[q]?)→u.os=b.w.os→u.output=b.w.output→PV (nX b.fr) u):
 ∃N last o w' t',runNT prog (N+1) (solo (G a.fr a.cs) va) #[]=(.ended o w',t')∧runN prog N (solo (G a.fr a.cs) va)=.next last∧step prog last=.ended o w'∧Conc.Good prog PV last o w' t':=by
 obtain⟨k0,wr,t0,hr0,yh,Vm,hlt,hsz0⟩:=dP.Db (EG _) rZ (fun _ h=>h) hp (a:=a) (b:=⟨kU n cb,cs,w⟩) rfl rfl ok va hva #[] (dP.iH.nil _)
 have hws:wr.heap.size=w.heap.size:=yh.qz.size
 have hz0:∀b,Z0 b→b<w.heap.size:=fun b hb=>Vm.lv.in hb
 have hza:∀b,Z0 b→∃o,va.heap[b]? =some o∧wr.heap[b]? =some o:=fun b hb=>by
  have h1:b<va.heap.size:=by rw[hva.qz.size];exact ok.lv.in hb
  refine⟨_,Array.getElem?_eq_getElem h1,yh.qz.kept b _ hb (Array.getElem?_eq_getElem h1) (hcells b _ hb (Array.getElem?_eq_getElem h1))⟩
 have hdz:∀b,D b→w.heap[b]? =wr.heap[b]?:=fun b hb=>by
  obtain⟨c,e,f,h1,_⟩:=hcl b hb
  have hn0:¬ Z0 b:=fun h=>by
   have h2:=Vm.lv.dead b h
   rw[show(⟨kU n cb,cs,w⟩:dP.Pt).w=w from rfl,h1] at h2
   simp[dP.X0] at h2
  exact(yh.qz.same b hn0).symm
 have S':dP.iH t0 wr.heap.size:=by rw[hws];exact hlt
 obtain⟨w1,hR,k1,μ,M,t1,hr1,hI⟩:=oR (cs:=cs) hn S' hF hin hal hroom hcl hdz hcb hcall
 rw[hws] at hR hI
 have hlv:=Vm.lv
 obtain⟨N2,last,o,w',t',h1,h2,h3,h4⟩:=dP.PE (S:=rO n (fG cb) w.heap.size cs (dO w.heap.size w1) bit wr) (jw:=wD) (Z0:=Z0) (Fc:=FF) (St:=oK) (PV:=PV) (Post:=fun b=>∀u:World,u.heap.size=b.w.heap.size→(∀q,q<w.heap.size→¬ Z0 q→u.heap[q]? =b.w.heap[q]?)→(∀q,Z0 q→u.heap[q]? =va.heap[q]?)→u.os=b.w.os→u.output=b.w.output→PV (nX b.fr) u)
  (Rs:=fun R=>∃ac,oA n (fG cb) w.heap.size ac∧R=qK (base 99) ac p8 0 [] [.code mo] cs) rZ (fh hn hR) (fun g ⟨ac,h1,h2⟩=>⟨_,⟨ac,h1,rfl⟩,h2⟩) (by
  rintro R ⟨ac,hac,hRe⟩ w2 buf s z hv hch hperm Uo
  subst hRe
  classical
  have hsz1:w1.heap.size=w.heap.size+4:=hR.1
  let S:=rO n (fG cb) w.heap.size cs (dO w.heap.size w1) bit wr
  let Z:dP.Env:=dP.Dead' S wD Z0 w2
  let v:World:={w2 with heap:=w2.heap.mapIdx fun b o=>if Z.dead b then dP.X0 b else o }
  have RQ:∀b o,¬ Z0 b→dO w.heap.size w1 b=some o→w2.heap[b]? =some o∧¬ Z.dead b:=fun b o hz h=>⟨hv.tab b o h,fun hd=>hd.1.elim (fun h2=>h2 (by show dO _ _ b≠none;rw[h];simp)) hz⟩
  have hnz:∀b,w.heap.size≤b→¬ Z0 b:=fun b hb hz=>by have:=hz0 b hz;omega
  have hin':∀b,¬ Z.dead b→v.heap[b]? =w2.heap[b]?:=fun b hb=>by
   show(w2.heap.mapIdx fun b o=>if Z.dead b then dP.X0 b else o)[b]? =_
   rw[Array.getElem?_mapIdx]
   cases w2.heap[b]? <;> simp[hb]
  have hout:∀b,Z.dead b→v.heap[b]? =some (dP.X0 b):=fun b hb=>by
   show(w2.heap.mapIdx fun b o=>if Z.dead b then dP.X0 b else o)[b]? =_
   rw[Array.getElem?_mapIdx,Array.getElem?_eq_getElem hb.2.2]
   simp[hb]
  have hvs:v.heap.size=w2.heap.size:=by show(w2.heap.mapIdx _).size=_;simp
  have hold:∀b,b<w.heap.size→¬ Z0 b→∃o,w.heap[b]? =some o∧dO w.heap.size w1 b=some o:=fun b hb hz=>by
   refine⟨w.heap[b],Array.getElem?_eq_getElem hb,?_⟩
   rw[nA zo zo,hR.2.1 b hb,yh.qz.same b hz]
   exact Array.getElem?_eq_getElem hb
  have SD:∀b,Z0 b→w2.heap[b]? =va.heap[b]?:=fun b hz=>by
   have hb:=hz0 b hz
   obtain⟨o,h1,h2⟩:=hza b hz
   rw[h1]
   refine hv.tab b o ?_
   show dO w.heap.size w1 b=some o
   rw[nA zo zo,hR.2.1 b hb]
   exact h2
  have jq:dO w.heap.size w1 w.heap.size=some (.cells #[fG cb] 103):=by rw[nA zo zo];exact hR.2.2.1
  have Il:dO w.heap.size w1 (w.heap.size+2)=some (.cells #[.chan (some (w.heap.size+1))] 170):=by rw[nA zo zo];exact hR.2.2.2.2.1
  have Sf:¬ Z.dead (w.heap.size+1):=fun hd=>hd.2.1 rfl
  have hbx:=RQ _ _ (hnz _ zL) jq
  have xm:=RQ _ _ (hnz _ (Nat.le_add_right _ _)) Il
  have Se:Behind n cb w.heap.size bit w v:=by
   obtain⟨st,sm,hl⟩:=hv.live
   have hlt:w.heap.size+3<w2.heap.size:=(Array.getElem?_eq_some_iff.1 hl).1
   refine⟨zo,fun b hb=>?_,?_,⟨buf,s,z,?_,hperm⟩,?_,hv.env.1.trans yh.qz.os,hv.env.2.1.trans yh.qz.output⟩
   ·by_cases hz:Z0 b
    ·have hd:Z.dead b:=⟨.inr hz,fun e=>by have e2:b=w.heap.size+1:=e;omega,zo⟩
     rw[hout b hd]
     exact(Vm.lv.dead b hz).symm
    ·obtain⟨o,h1,h2⟩:=hold b hb hz
     rw[hin' b (RQ b o hz h2).2,(RQ b o hz h2).1,h1]
   ·rw[hin' _ hbx.2,hbx.1]
   ·rw[hin' _ Sf];exact hch
   ·rw[hin' _ xm.2,xm.1]
  have hplain:∀o,dP.Plain ⟨Z0,wD⟩ o→dP.Plain Z o:=fun o h=>by cases o <;> exact h
  have hok:(⟨Au ac,cs,v⟩:dP.Pt).Ok prog FF.fn Z:=by
   refine⟨⟨by show FF.fn 99;simp,fun i hi=>?_,fun d hd=>?_,rfl⟩,Vm.cs,⟨fun b hb=>hout b hb,fun b o hb ho=>?_⟩⟩
   ·have hi':i=.inRegion p8 []∨i=.code mo:=by
     have h0:i∈[Item.inRegion p8 [],Item.code mo]:=hi
     simpa using h0
    rcases hi' with e|e
    ·rw[e];exact B0
    ·rw[e];exact mL
   ·obtain⟨_,_,_,_,_,_,rfl⟩:=hac
    have h0:d∈([]:List Deferred):=by
     have h1:∀T:Array Value,(Act.put ⟨T,[]⟩ ((p8[0]?).bind (·.dst)) (.tuple #[])).defers=[]:=fun T=>by
      cases (p8[0]?).bind (·.dst) <;> rfl
     rw[← h1]
     exact hd
    simp at h0
   ·rw[hin' b hb] at ho
    have hlt:b<w2.heap.size:=(Array.getElem?_eq_some_iff.1 ho).1
    by_cases hc:b=w.heap.size+1
    ·subst hc
     have h2:w2.heap[w.heap.size+1]? =_:=hch
     rw[h2] at ho
     cases ho
     trivial
    ·have hcb:S.Cb b:=Classical.byContradiction fun h=>hb ⟨.inl h,hc,hlt⟩
     have yq:¬ Z0 b:=fun h=>hb ⟨.inr h,hc,hlt⟩
     cases ht:dO w.heap.size w1 b with
     | none=>exact absurd ht hcb
     | some o'=>
       have h2:=hv.tab b o' ht
       rw[h2] at ho
       cases ho
       have h3:=(Ar ht).1
       have h4:=(Ar ht).2
       have h5:b<w.heap.size+4:=by rw[← hsz1];exact(Array.getElem?_eq_some_iff.1 h3).1
       by_cases h6:b<w.heap.size
       ·rw[hR.2.1 b h6,yh.qz.same b yq] at h3
        exact hplain _ (hlv.live b _ yq h3)
       ·have h7:b=w.heap.size∨b=w.heap.size+2:=zo
        rcases h7 with h7|h7
        ·subst h7;rw[jq] at ht;cases ht;trivial
        ·subst h7;rw[Il] at ht;cases ht;trivial
  refine⟨⟨Au ac,cs,v⟩,rfl,EG _,hok,⟨hvs.symm,fun b hb=>(hin' b hb).symm,rfl,rfl,fun b o _ hk _=>hk⟩,fun σ=>?_,fun b v2 hst hpost xi jV=>?_⟩
  ·obtain⟨b,hb1,hb2,hb3⟩:=hback ac hac v Se σ
   exact⟨b,Vn (dead:=Z.dead) hb1 rfl rfl (hok.on σ),hb2,hb3⟩
  ·refine⟨nX b.fr,#[],DK hst v2,fun e he=>by simp at he,hpost v2 jV.size (fun q hq hz=>jV.same q fun hd=>?_) (fun q hz=>?_) jV.os jV.output⟩
   ·obtain⟨o,_,h2⟩:=hold q hq hz
    exact(RQ q o hz h2).2 hd
   ·have hb:=hz0 q hz
    obtain⟨o,h1,h2⟩:=hza q hz
    have hlt2:q<w2.heap.size:=by obtain⟨st,sm,hl⟩:=hv.live;have:w.heap.size+3<w2.heap.size:=(Array.getElem?_eq_some_iff.1 hl).1;omega
    rw[h1]
    exact jV.kept q o ⟨.inr hz,fun e=>by have e2:q=w.heap.size+1:=e;omega,hlt2⟩ ((SD q hz).trans h1) (hcells q o hz h1)) hI
 have whole:∀k,runNT prog (k0+(k1+k)) (solo (G a.fr a.cs) va) #[]=runNT prog k M t1:=fun k=>by
  rw[runNT_add,hr0]
  show runNT prog (k1+k) (solo (G (kU n cb) cs) wr) t0=_
  rw[runNT_add]
  have hr1':runNT prog k1 (solo (G (kU n cb) cs) wr) t0=(.next M,t1):=hr1
  rw[hr1']
 refine⟨k0+(k1+N2),last,o,w',t',?_,?_,h3,h4⟩
 ·rw[show k0+(k1+N2)+1=k0+(k1+(N2+1)) by omega,whole]
  exact h1
 ·rw[← runNT_fst prog _ _ #[],whole,runNT_fst]
  exact h2
end
end Go.Proofs.YtpmafoalhnaokaaGreat
