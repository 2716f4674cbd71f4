/- Crew5 Crew6 Crew7 Crew8 Crew9 -/
import Derived.Test.YthaelabgfnnebaaGreatC3
import Derived.Conc.CrowdRun
set_option maxRecDepth 100000
set_option maxHeartbeats 16000000
set_option linter.unusedVariables false
set_option linter.unusedSectionVars false
open Go.IntKind(i64)
open Go.Value(int)
namespace Go.aO
section
open Go.Conc Go.ConcN Go.cu Go.Conc.Lib
open Go.ConcR (KK WgAt stA smA rd wr g_of_ofEvents Payload DC0 again_blocked)
variable[Inhabited aV]
structure Site.Ok(S:Site):Prop where
 cA:S.tab S.bA=some (.cells #[S.vA] (@Payload.ety S.pA))
 cB:S.tab S.bB=some (.cells #[S.vB] (@Payload.ety S.pB))
 ab:S.bA≠S.bB
 aW:S.bA≠S.Wg
 bW:S.bB≠S.Wg
 wc:S.Wg≠S.Ch
 n31:S.n<2147483648
 run:∀g w,S.Anch g w→g.status=.running
 anch:∀g w,S.Anch g w→∃m,S.GL S.W1 m g w
section
variable{S:Site}{i bx p s m d j b f:Nat}{x:Rank S.P}{g:Goroutine}{w w2:World}{O:Nat→Prop}{tag:CTag}
theorem Site.Ok.bA(h:S.Ok):S.Cb S.bA:=by simp[Site.Cb,h.cA]
theorem Site.Ok.bB(h:S.Ok):S.Cb S.bB:=by simp[Site.Cb,h.cB]
theorem MF{q:Nat}(hb:S.Cb q)(k:Keeps (S.C1 bx) O w w2)(hl:WgLive S.ty S.Wg w2)(pl:Payload):@RW pl S.ty S.Wg q 1 0 0 w w2:=by
 have e:w2.heap[q]? =w.heap[q]?:=k q (.inr (.inl hb))
 exact⟨fun _ h=>absurd h (Nat.not_lt_zero _),fun _=>hl,fun⟨cs,h,hn⟩=>⟨cs,e.trans h,hn⟩,cell_of_block e 0⟩
theorem Site.GA.rely(h:S.GA m g w)(r:@RW S.pA S.ty S.Wg S.bA 1 0 0 w w2):S.GA m g w2:=by
 have tr:∀u v z,@RW S.pA S.ty S.Wg S.bA 1 0 0 u v→@RW S.pA S.ty S.Wg S.bA 1 0 0 v z→@RW S.pA S.ty S.Wg S.bA 1 0 0 u z:=fun _ _ _ a b=>@RW.trans S.pA _ _ _ _ _ _ _ _ _ a b
 exact Goes.rely tr h r
theorem Site.GB.rely(h:S.GB m g w)(r:@RW S.pB S.ty S.Wg S.bB 1 0 0 w w2):S.GB m g w2:=by
 have tr:∀u v z,@RW S.pB S.ty S.Wg S.bB 1 0 0 u v→@RW S.pB S.ty S.Wg S.bB 1 0 0 v z→@RW S.pB S.ty S.Wg S.bB 1 0 0 u z:=fun _ _ _ a b=>@RW.trans S.pB _ _ _ _ _ _ _ _ _ a b
 exact Goes.rely tr h r
theorem Site.GA.running(h:S.GA m g w):g.status=.running:=Goes.running (fun _ _ x=>x.1) w (@RW.refl S.pA _ _ _ _ _ _ w) h
theorem Oo(hS:S.Ok)(h:S.Late s m d g w)(k:Keeps (S.C1 bx) O w w2)(hl:WgLive S.ty S.Wg w2):S.Late s m d g w2:=by
 rcases h with h|h
 ·exact .inl (@WSit.rely S.pA _ _ _ _ _ _ _ _ _ _ _ _ _ _ _ _ h (MF hS.bA k hl S.pA))
 ·exact .inr (@WSit.rely S.pB _ _ _ _ _ _ _ _ _ _ _ _ _ _ _ _ h (MF hS.bB k hl S.pB))
theorem D8(h:S.Late s m d g w)(hs:s≠1):g.status=.running:=by
 rcases h with h|h
 ·exact @WSit.running_of S.pA _ _ _ _ _ _ _ _ _ _ _ _ _ _ _ h hs
 ·exact @WSit.running_of S.pB _ _ _ _ _ _ _ _ _ _ _ _ _ _ _ h hs
theorem Gt(h:S.Late s m d g w):g.status=.running∨g.status=.finished:=by
 rcases h with h|h
 ·exact @WSit.status S.pA _ _ _ _ _ _ _ _ _ _ _ _ _ _ _ h
 ·exact @WSit.status S.pB _ _ _ _ _ _ _ _ _ _ _ _ _ _ _ h
theorem Dn.keeps(hS:S.Ok)(h:Dn S i bx x p s m d g w O)(k:Keeps (S.C1 bx) O w w2)(hl:WgLive S.ty S.Wg w2):Dn S i bx x p s m d g w2 O:=by
 cases h with
 | p2 hx h=>exact .p2 (hx.trans (mD k).symm) (h.keeps k)
 | p1 hx h=>exact .p1 (hx.trans (mD k).symm) (h.keeps k)
 | r0 h1 h2=>exact .r0 (h1.rely (MF hS.bA k hl _)) (h2.rely (MF hS.bB k hl _))
 | late hs h=>exact .late hs (Oo hS h k hl)
theorem Dn.running_of(h:Dn S i bx x p s m d g w O)(hv:S.V1 i bx w)(hs:s≠1):g.status=.running:=by
 cases h with
 | p2 hx h=>
   cases h with
   | stop h=>
     rcases h w (Keeps.refl _ O w) hv with⟨_,h⟩|⟨_,⟨_,h⟩,_⟩
     ·exact h.1
     ·exact Site.GA.running h
   | step X h0 h1 h2=>exact h0
 | p1 hx h=>
   cases h with
   | stop h=>exact Site.GA.running (h w (Keeps.refl _ O w) hv).1.choose_spec
   | step X h0 h1 h2=>exact h0
 | r0 h1 h2=>exact Site.GA.running h1
 | late _ h=>exact D8 h hs
theorem Dn.status(h:Dn S i bx x p s m d g w O)(hv:S.V1 i bx w):g.status=.running∨g.status=.finished:=by
 by_cases hs:s=1
 ·cases h with
  | late _ h=>exact Gt h
  | p2 _ _=>omega
  | p1 _ _=>omega
  | r0 _ _=>omega
 ·exact .inl (h.running_of hv hs)
theorem Dn.woken(h:Dn S i bx x p s m d g w O)(hv:S.V1 i bx w)(a a':Goroutine)(w':World):woken S.P a a' w' g=g:=by
 unfold Go.Conc.woken
 split
 ·exact again_running _ (h.status hv)
 ·rfl
theorem fD{P:Program}{L:WgLink}{Wg:Nat}{K:Goroutine→World→Prop}(h:gH P L Wg K m g w)(hl:WgLive L.tWg Wg w2):gH P L Wg K m g w2:=Goes.rely (fun _ _ _ a b x=>b (a x)) h fun _=>hl
theorem bO{P:Program}{L:WgLink}{Wg:Nat}{K:Goroutine→World→Prop}(hK:∀g w,K g w→g.status=.running)(h:gH P L Wg K m g w):g.status=.running:=Goes.running hK w (fun x=>x) h
theorem iw{Next:Goroutine→World→Prop}{R:Goroutine}(h:S.Cont i Next R w O)(k:Keeps S.Cb O w w2):S.Cont i Next R w2 O:=fun w' k' v'=>h w' (k.trans k') v'
theorem iZ.keeps(h:iZ S j x tag b f d g w O)(k:Keeps S.Cb O w w2)(hl:WgLive S.ty S.Wg w2):iZ S j x tag b f d g w2 O:=by
 cases h with
 | skd e hx h=>exact .skd e (hx.trans (mD k).symm) (h.keeps k)
 | sa1 e h c=>exact .sa1 e (fD h hl) (iw c k)
 | ll e h c=>exact .ll e (fD h hl) (iw c k)
 | ske e h c=>exact .ske e (fD h hl) (iw c k)
 | fW e h c=>exact .fW e (fD h hl) (iw c k)
 | sgo e hx h=>exact .sgo e (hx.trans (mD k).symm) (h.keeps k)
 | kd e h=>exact .kd e (fD h hl)
 | anch e h=>exact .anch e (fD h hl)
 | w1 e h=>exact .w1 e (fD h hl)
 | w2 e h=>exact .w2 e (fD h hl)
 | wr e h=>exact .wr e (fD h hl)
 | w3 e h=>exact .w3 e (fD h hl)
 | blk e h=>exact .blk e fun w₁ r=>h w₁ fun _=>r hl
 | w4 e h=>exact .w4 e (fD h hl)
 | ke e h=>exact .ke e (fD h hl)
 | acq e h=>exact .acq e (fD h hl)
theorem iZ.status(hS:S.Ok)(h:iZ S j x tag b f d g w O)(hv:S.V0 w):(g.status=.running∧tag≠.blk)∨(g.status=.blocked∧tag=.blk):=by
 cases h with
 | skd e hx h=>
   refine .inl ⟨?_,zs⟩
   cases h with
   | stop h=>exact(h w (Keeps.refl _ O w) hv).choose_spec.1.1
   | step X h0 h1 h2=>exact h0
 | sa1 e h c=>exact .inl ⟨bO (fun _ _ x=>x.1) h,zs⟩
 | ll e h c=>exact .inl ⟨bO (fun _ _ x=>x.elim (fun x=>x.1) (fun x=>x.1)) h,zs⟩
 | ske e h c=>exact .inl ⟨bO (fun _ _ x=>x.1) h,zs⟩
 | @fW r m R g w O e h c=>
   refine .inl ⟨bO (fun g' w' x=>?_) h,zs⟩
   subst x
   have h1:=c w (Keeps.refl _ O w) hv
   cases h1 with
   | stop h=>exact(h w (Keeps.refl _ O w) hv).1
   | step X h0 h1 h2=>exact h0
 | sgo e hx h=>
   refine .inl ⟨?_,zs⟩
   cases h with
   | stop h=>exact(h w (Keeps.refl _ O w) hv).1
   | step X h0 h1 h2=>exact h0
 | kd e h=>exact .inl ⟨bO (fun _ _ x=>x.1) h,zs⟩
 | anch e h=>exact .inl ⟨bO hS.run h,zs⟩
 | w1 e h=>exact .inl ⟨bO (fun _ _ x=>x.1) h,zs⟩
 | w2 e h=>exact .inl ⟨bO (fun _ _ x=>x.1) h,zs⟩
 | wr e h=>exact .inl ⟨bO (fun _ _ x=>x.1) h,zs⟩
 | w3 e h=>exact .inl ⟨bO (fun _ _ x=>x.1) h,zs⟩
 | blk e h=>exact .inr ⟨rfl,rfl⟩
 | w4 e h=>exact .inl ⟨bO (fun _ _ x=>x.1) h,zs⟩
 | ke e h=>exact .inl ⟨bO (fun _ _ x=>x.1) h,zs⟩
 | acq e h=>exact .inl ⟨bO (fun _ _ x=>x.1) h,zs⟩
theorem iZ.wokenBy(hS:S.Ok)(h:iZ S j x tag b f d g w O)(k:Keeps S.Cb O w w2)(hv:S.V0 w2)(g1 g2:Goroutine):
 ∃tag' f',iZ S j x tag' b f' d (woken S.P g1 g2 w2 g) w2 O∧f'≤f+1∧(tag'=tag∨(tag=.blk∧tag'=.w3))∧(mayWake S.P g1=true→g2.status=.running→tag'≠.blk):=by
 have h':=h.keeps k hv.live
 unfold Go.Conc.woken
 split
 ·rcases h'.status hS hv with⟨hs,hne⟩|⟨_,rfl⟩
  ·exact⟨tag,f,by rw[again_running _ (.inl hs)];exact h',zo,.inl rfl,fun _ _=>hne⟩
  ·cases h' with
   | blk e hb=>
     have h3:=hb w2 fun x=>x
     exact⟨.w3,0+1,by rw[again_blocked h3.1 h3.2.1];exact .w3 e (Goes.stop hb),zo,.inr ⟨rfl,rfl⟩,fun _ _=>zs⟩
 ·rename_i hc
  exact⟨tag,f,h',zo,.inl rfl,fun h1 h2=>absurd (by simp[h1,h2]) hc⟩
end
def Bp(w w':World):Prop:=w'.os=w.os∧w'.output=w.output∧w'.tape=w.tape
theorem Bp.env{w w':World}(h:Bp w w'){o:Os}{p:Array (Nat × ByteArray)}{τ:Tape}(e:w.os=o∧w.output=p∧w.tape=τ):w'.os=o∧w'.output=p∧w'.tape=τ:=⟨h.1.trans e.1,h.2.1.trans e.2.1,h.2.2.trans e.2.2⟩
def Site.Sh(S:Site)(b:Nat):Prop:=b=S.Wg∨b=S.Ch
def sJ(S:Site)(j:Nat)(pre:Nat→Nat)(w:World):Prop:=
 ∃ (buf:Array Value) (s q:Nat),w.heap[S.Ch]? =some (.chan S.n buf false s q false)∧buf.toList.Perm (((List.range j).filter fun i=>S.bit i && decide (pre i≤1)).map fun(i:Nat)=>int i64 i)
def MZ(S:Site)(t:Trace):Prop:=∀op∈t,op.g≠0→∀x,op.act.touch?=some x→x.kind=.atomic→ShN S.Wg x.loc
theorem MZ.app{S:Site}{t u:Trace}(h:MZ S t)(hu:MZ S u):MZ S (t ++ u):=fun op hop=>(Array.mem_append.1 hop).elim (h op) (hu op)
structure Com(S:Site)(O C:Nat→Nat→Prop)(bx pre:Nat→Nat)(rk:Nat→Rank S.P)(j:Nat)(gs:Array Goroutine)(w:World)(t:Trace)(D:Nat→WD)(d0:Nat):Prop where
 size:gs.size=j+1
 lay:Lay O C S.Sh w
 c0:C 0=S.Cb
 ci:∀i,i<j→C (i+1)=S.C1 (bx i)
 z:∀k b,j<k→¬ O k b∧¬ C k b
 v0:S.V0 w
 box:∀i,i<j→w.heap[bx i]? =some (S.Rv i)
 wk:∀i,i<j→∃g,gs[i+1]? =some g∧Dn S i (bx i) (rk (i+1)) (pre i) (D i).stage (D i).fuel (D i).deaf g w (O (i+1))
 ct:CT (In S.Sh) (gY O) (Dk C) t j
 Qo:Qh t w
 norel:NoRelease (stA S.Wg) t
 deaf0:Deaf t 0=d0
 deafW:∀i,i<j→Deaf t (i+1)=(D i).deaf
 rel:∀i,i<j→(D i).stage≤6→∃r,RelBy (stA S.Wg) t (i+1) r
 sent:sJ S j pre w
 vm:MZ S t
section
variable{S:Site}{O C:Nat→Nat→Prop}{bx pre:Nat→Nat}{rk:Nat→Rank S.P}{j:Nat}{gs gs':Array Goroutine}{w w':World}{t u:Trace}{D:Nat→WD}{d0:Nat}
theorem Com.v1(h:Com S O C bx pre rk j gs w t D d0){i:Nat}(hi:i<j):S.V1 i (bx i) w:=⟨h.v0,h.box i hi⟩
theorem sJ.congr{pre':Nat→Nat}(h:sJ S j pre w)(hw:w'.heap[S.Ch]? =w.heap[S.Ch]?)(hp:∀i,i<j→(pre' i≤1↔pre i≤1)):sJ S j pre' w':=by
 obtain⟨buf,s,q,h1,h2⟩:=h
 refine⟨buf,s,q,hw.trans h1,?_⟩
 have:((List.range j).filter fun i=>S.bit i && decide (pre' i≤1))=(List.range j).filter fun i=>S.bit i && decide (pre i≤1):=by
  refine List.filter_congr fun i hi=>?_
  rw[decide_eq_decide.2 (hp i (List.mem_range.1 hi))]
 rw[this];exact h2
theorem sJ.chan(h:sJ S j pre w):∃buf s q,w.heap[S.Ch]? =some (.chan S.n buf false s q false):=let ⟨buf,s,q,h1,_⟩:=h;⟨buf,s,q,h1⟩
theorem Com.stepW(hS:S.Ok)(h:Com S O C bx pre rk j gs w t D d0){i:Nat}(hi:i<j){g':Goroutine}{O1:Nat→Prop}{x':Rank S.P}{p' s' m' d':Nat}
 (hsz:gs'.size=j+1)(hg':gs'[i+1]? =some g')(hgs:∀k,k<j→k≠i→∀y,gs[k+1]? =some y→(y.status=.running∨y.status=.finished)→gs'[k+1]? =some y)
 (jf:Lay (qR O (i+1) O1) C S.Sh w')(hk:∀k,k≠i+1→Keeps (C k) (O k) w w')(eh:∀b,C (i+1) b→w'.heap[b]? =w.heap[b]?)(hl:WgLive S.ty S.Wg w')(Gg:Bp w w')
 (iY:sJ S j (upd pre i p') w')(hs':Dn S i (bx i) x' p' s' m' d' g' w' O1)
 (hct:CT (In S.Sh) (gY (qR O (i+1) O1)) (Dk C) (t ++ u) j)(Ai:Qh (t ++ u) w')(hu:∀op∈u,op.g=i+1)(hnr:∀op∈u,op.act≠.mark (.release (stA S.Wg)))
 (DW:MZ S u)(hdk:Deaf (t ++ u) (i+1)=d')(hrel:s'≤6→∃r,RelBy (stA S.Wg) (t ++ u) (i+1) r):
 Com S (qR O (i+1) O1) C bx (upd pre i p') (upd rk (i+1) x') j gs' w' (t ++ u) (upd D i ⟨s',m',d'⟩) d0:=by
 refine⟨hsz,jf,h.c0,h.ci,fun k b hk'=>⟨by rw[dW O O1 zo];exact(h.z k b hk').1,(h.z k b hk').2⟩,⟨hl,fun b o hb=>?_,iY.chan,Gg.env h.v0.env⟩,fun k hk'=>?_,fun k hk'=>?_,hct,Ai,h.norel.app hnr,by rw[Deaf_other t zo _ hu,h.deaf0],fun k hk'=>?_,fun k hk' hst=>?_,iY,h.vm.app DW⟩
 ·rw[hk 0 zo b (.inr (by rw[h.c0];simp[Site.Cb,hb]))];exact h.v0.tab b o hb
 ·by_cases e:k=i
  ·subst e;rw[eh _ (by rw[h.ci k hi];exact .inr rfl)];exact h.box k hi
  ·rw[hk (k+1) zo _ (.inr (by rw[h.ci k hk'];exact .inr rfl))];exact h.box k hk'
 ·by_cases e:k=i
  ·subst e
   refine⟨g',hg',?_⟩
   rw[upd_same,upd_same,upd_same,bK]
   exact hs'
  ·obtain⟨y,hy,hsy⟩:=h.wk k hk'
   refine⟨y,hgs k hk' e y hy (hsy.status (h.v1 hk')),?_⟩
   rw[upd_ne rk _ zo,upd_ne pre _ e,upd_ne D _ e,dW O O1 zo]
   exact hsy.keeps hS (by rw[← h.ci k hk'];exact hk (k+1) zo) hl
 ·by_cases e:k=i
  ·subst e;rw[upd_same];exact hdk
  ·rw[Deaf_other t zo _ hu,h.deafW k hk',upd_ne D _ e]
 ·by_cases e:k=i
  ·subst e;rw[upd_same] at hst;exact hrel hst
  ·rw[upd_ne D _ e] at hst
   obtain⟨r,hr⟩:=h.rel k hk' hst
   exact⟨r,hr.appOther hu zo⟩
theorem Com.step0(hS:S.Ok)(h:Com S O C bx pre rk j gs w t D d0){O1:Nat→Prop}{x':Rank S.P}{d':Nat}
 (hsz:gs'.size=j+1)(hgs:∀k,k<j→∀y,gs[k+1]? =some y→(y.status=.running∨y.status=.finished)→gs'[k+1]? =some y)
 (jf:Lay (qR O 0 O1) C S.Sh w')(hk:∀k,k≠0→Keeps (C k) (O k) w w')(eh:∀b,C 0 b→w'.heap[b]? =w.heap[b]?)(hl:WgLive S.ty S.Wg w')(Gg:Bp w w')
 (iY:sJ S j pre w')(hct:CT (In S.Sh) (gY O) (Dk C) (t ++ u) j)(Ai:Qh (t ++ u) w')(hu:∀op∈u,op.g=0)(hnr:∀op∈u,op.act≠.mark (.release (stA S.Wg)))
 (DW:MZ S u)(hdk:Deaf (t ++ u) 0=d'):
 Com S (qR O 0 O1) C bx pre (upd rk 0 x') j gs' w' (t ++ u) D d':=by
 refine⟨hsz,jf,h.c0,h.ci,fun k b hk'=>⟨by rw[dW O O1 zo];exact(h.z k b hk').1,(h.z k b hk').2⟩,⟨hl,fun b o hb=>?_,iY.chan,Gg.env h.v0.env⟩,fun k hk'=>?_,fun k hk'=>?_,CT.congr hct (fun k k1 _=>?_) (fun _ _ _=>rfl),Ai,h.norel.app hnr,hdk,fun k hk'=>by rw[Deaf_other t zo _ hu,h.deafW k hk'],fun k hk' hst=>?_,iY,h.vm.app DW⟩
 ·rw[eh b (by rw[h.c0];simp[Site.Cb,hb])];exact h.v0.tab b o hb
 ·rw[hk (k+1) zo _ (.inr (by rw[h.ci k hk'];exact .inr rfl))];exact h.box k hk'
 ·obtain⟨y,hy,hsy⟩:=h.wk k hk'
  refine⟨y,hgs k hk' y hy (hsy.status (h.v1 hk')),?_⟩
  rw[upd_ne rk _ zo,dW O O1 zo]
  exact hsy.keeps hS (by rw[← h.ci k hk'];exact hk (k+1) zo) hl
 ·unfold gY;rw[dW O O1 zo]
 ·obtain⟨r,hr⟩:=h.rel k hk' hst
  exact⟨r,hr.appOther hu zo⟩
end
end
section
open Go.Conc Go.ConcN Go.cu Go.Conc.Lib
open Go.ConcR (KK WgAt stA smA rd wr g_of_ofEvents Payload DC0 again_blocked Bk ofEvent_loc_mark ofEvent_cell)
variable[Inhabited aV]
abbrev uT(S:Site):=Nat × (Nat→Rank S.P) × Nat
def yU(S:Site):uT S→uT S→Prop:=Prod.Lex (· < ·) (Prod.Lex (Dec (kS S.P) (S.n+1)) (· < ·))
theorem ff(S:Site):WellFounded (yU S):=
 (Prod.lex ⟨_,Nat.lt_wfRel.wf⟩ (Prod.lex ⟨_,cQ (r:=kS S.P) Ck (S.n+1)⟩ ⟨_,Nat.lt_wfRel.wf⟩)).wf
theorem fe{S:Site}{a b:uT S}(h:yU S a b):a.1≤b.1:=by
 cases h with
 | left _ _ h=>exact Nat.le_of_lt h
 | right _ h=>exact Nat.le_refl _
theorem Ei{S:Site}{a b:uT S}(h:a.1<b.1):yU S a b:=by
 obtain⟨a1,a2⟩:=a
 obtain⟨b1,b2⟩:=b
 exact Prod.Lex.left _ _ h
theorem Cc{S:Site}{a b c:uT S}(h:yU S a b)(h2:b.1<c.1):yU S a c:=Ei (Nat.lt_of_le_of_lt (fe h) h2)
def mu(S:Site)(j:Nat)(D:Nat→WD)(tag:CTag)(b:Nat)(pre:Nat→Nat)(rk:Nat→Rank S.P)(f0:Nat):uT S:=
 (2 * phi S.n (Vc j D) tag+b+Ssum j D+sumTo j pre,rk,f0+2 * Fsum j D)
def Inv(S:Site)(μ:uT S)(m:Machine)(t:Trace):Prop:=
 ∃ (gs:Array Goroutine) (w:World) (sl:Option (Nat × Nat)) (j:Nat) (D:Nat→WD) (tag:CTag) (b f0 d0:Nat) (a:Goroutine) (st sm:Int) (O C:Nat→Nat→Prop) (bx pre:Nat→Nat) (rk:Nat→Rank S.P),
   m=crowd gs w sl∧gs[0]? =some a∧iZ S j (rk 0) tag b f0 d0 a w (O 0)∧Com S O C bx pre rk j gs w t D d0∧WgAt S.ty S.Wg w st sm∧ConcN.Mode j D tag st sm∧μ=mu S j D tag b pre rk f0
theorem tX{α:Type}(f:Nat→α)(i:Nat):upd f i (f i)=f:=by
 funext k
 by_cases e:k=i
 ·subst e;rw[upd_same]
 ·rw[upd_ne f _ e]
theorem jX(O:Nat→Nat→Prop)(i:Nat):qR O i (O i)=O:=by
 funext k
 by_cases e:k=i
 ·subst e;rw[bK]
 ·rw[dW O _ e]
section
variable{S:Site}{O C:Nat→Nat→Prop}{bx pre:Nat→Nat}{rk:Nat→Rank S.P}{j:Nat}{gs:Array Goroutine}{w w':World}{sl:Option (Nat × Nat)}{t:Trace}{D:Nat→WD}{tag:CTag}{b f0 d0:Nat}{a:Goroutine}{st sm:Int}
theorem iZ.bound{x:Rank S.P}{O0:Nat→Prop}(h:iZ S j x tag b f0 d0 a w O0):j+pend tag≤S.n:=by
 cases h <;> simp only[pend] <;> (try simp) <;> omega
theorem Iy(hS:S.Ok)(ha:gs[0]? =some a)(hm:iZ S j (rk 0) tag b f0 d0 a w (O 0))(hc:Com S O C bx pre rk j gs w t D d0)
 {i:Nat}(hi:i<j){g g':Goroutine}{O1:Nat→Prop}{es:Array Event}{x':Rank S.P}{p' s' m' d':Nat}{st' sm':Int}(hg:gs[i+1]? =some g)(hgo:stepG S.P false g w=.go g' w' es)
 (jf:Lay (qR O (i+1) O1) C S.Sh w')(hk:∀k,k≠i+1→Keeps (C k) (O k) w w')(eh:∀q,C (i+1) q→w'.heap[q]? =w.heap[q]?)(Gg:Bp w w')
 (iY:sJ S j (upd pre i p') w')(hs':Dn S i (bx i) x' p' s' m' d' g' w' O1)
 (hct:CT (In S.Sh) (gY (qR O (i+1) O1)) (Dk C) (t ++ MemOp.ofEvents (i+1) g.frame.fn g.frame.place es) j)(Ai:Qh (t ++ MemOp.ofEvents (i+1) g.frame.fn g.frame.place es) w')
 (DW:MZ S (MemOp.ofEvents (i+1) g.frame.fn g.frame.place es))(hnr:∀e∈es,e.loc≠.mark (.release (stA S.Wg)))(hdk:deafBehind (D i).deaf es=d')(hrel:s'≤6→∃r,RelBy (stA S.Wg) (t ++ MemOp.ofEvents (i+1) g.frame.fn g.frame.place es) (i+1) r)
 (hwg:WgAt S.ty S.Wg w' st' sm')
 (hmode:∀tag',(tag'=tag∨(tag=.blk∧tag'=.w3))→(mayWake S.P g=true→g'.status=.running→tag'≠.blk)→ConcN.Mode j (upd D i ⟨s',m',d'⟩) tag' st' sm')
 (hlt:(s'+p'<(D i).stage+pre i∧cnt ⟨s',m',d'⟩≤cnt (D i))∨(s'=(D i).stage∧p'=pre i∧kS S.P x' (rk (i+1)))∨(s'=(D i).stage∧p'=pre i∧x'=rk (i+1)∧m'<(D i).fuel)):
 ∃m₁ ops μ',runT S.P (crowd gs w sl) (i+1)=(.next m₁,ops)∧yU S μ' (mu S j D tag b pre rk f0)∧Inv S μ' m₁ (t ++ ops):=by
 have hl:WgLive S.ty S.Wg w':=⟨_,_,hwg⟩
 have hv0:S.V0 w':=⟨hl,fun q o hb=>by rw[hk 0 zo q (.inr (by rw[hc.c0];simp[Site.Cb,hb]))];exact hc.v0.tab q o hb,iY.chan,Gg.env hc.v0.env⟩
 obtain⟨tag',f',hcs',hf',htag,hwk⟩:=hm.wokenBy hS (by rw[← hc.c0];exact hk 0 zo) hv0 g g'
 have hrun:=runT_crowd_go (P:=S.P) (sl:=sl) (i:=i+1) hg (by simpa using hgo)
 have hjn:j≤S.n:=by have:=hm.bound;omega
 have hcom:=hc.stepW (gs':=(gs.map (woken S.P g g' w')).setIfInBounds (i+1) g') (u:=MemOp.ofEvents (i+1) g.frame.fn g.frame.place es) hS hi (by simp[hc.size]) (get_map_set_same _ _ _ (by rw[hc.size];omega))
  (fun k hk' e y hy hst=>by
   rw[get_map_set _ _ _ _ zo,hy,Option.map_some]
   congr 1
   unfold Go.Conc.woken
   split
   ·exact again_running _ hst
   ·rfl) jf hk eh hl Gg iY hs' hct Ai g_of_ofEvents (norel_of hnr) DW (by rw[Deaf_own,hc.deafW i hi];exact hdk) hrel
 have e1:=sumTo_upd D (⟨s',m',d'⟩:WD) cnt hi
 have e2:=sumTo_upd D (⟨s',m',d'⟩:WD) WD.stage hi
 have e3:=sumTo_upd D (⟨s',m',d'⟩:WD) WD.fuel hi
 have e4:=sumTo_upd pre p' id hi
 refine⟨_,_,mu S j (upd D i ⟨s',m',d'⟩) tag' b (upd pre i p') (upd rk (i+1) x') f',hrun,?_,_,w',sl,j,upd D i ⟨s',m',d'⟩,tag',b,f',d0,woken S.P g g' w' a,st',sm',_,C,bx,_,_,rfl,
  by rw[get_map_set _ _ _ _ zo,ha];rfl,by rw[upd_ne rk _ zo,dW O O1 zo];exact hcs',hcom,hwg,hmode tag' htag hwk,rfl⟩
 unfold mu
 rw[phi_retag S.n _ htag]
 simp only[Vc,Ssum,Fsum,id] at *
 have hph:(sumTo j fun q=>cnt (upd D i ⟨s',m',d'⟩ q))≤(sumTo j fun q=>cnt (D q))→phi S.n (sumTo j fun q=>cnt (upd D i ⟨s',m',d'⟩ q)) tag≤phi S.n (sumTo j fun q=>cnt (D q)) tag:=fun h=>phi_mono S.n h tag
 have same:s'=(D i).stage→p'=pre i→2 * phi S.n (sumTo j fun q=>cnt (upd D i ⟨s',m',d'⟩ q)) tag+b+(sumTo j fun q=>(upd D i ⟨s',m',d'⟩ q).stage)+sumTo j (fun q=>upd pre i p' q)=2 * phi S.n (sumTo j fun q=>cnt (D q)) tag+b+(sumTo j fun q=>(D q).stage)+sumTo j (fun q=>pre q):=fun h1 h2=>by
  have ec:cnt (⟨s',m',d'⟩:WD)=cnt (D i):=by simp only[cnt,h1]
  have ev:(sumTo j fun q=>cnt (upd D i ⟨s',m',d'⟩ q))=sumTo j fun q=>cnt (D q):=zo
  rw[ev];omega
 rcases hlt with⟨h1,h2⟩|⟨h1,h2,h3⟩|⟨h1,h2,h3,h4⟩
 ·refine Prod.Lex.left _ _ ?_
  have:=hph zo
  show 2 * _+b+_+sumTo j (fun q=>upd pre i p' q)<2 * _+b+_+sumTo j (fun q=>pre q)
  omega
 ·have:=same h1 h2
  show yU S (2 * _+b+_+sumTo j (fun q=>upd pre i p' q),_) (2 * _+b+_+sumTo j (fun q=>pre q),_)
  rw[this]
  exact Prod.Lex.right _ (Prod.Lex.left _ _ ⟨i+1,zo,by rw[upd_same];exact h3,fun k hk'=>upd_ne rk _ hk'⟩)
 ·have:=same h1 h2
  show yU S (2 * _+b+_+sumTo j (fun q=>upd pre i p' q),_) (2 * _+b+_+sumTo j (fun q=>pre q),_)
  rw[this,h3,tX]
  refine Prod.Lex.right _ (Prod.Lex.right _ ?_)
  omega
end
end
section
open Go.Conc Go.ConcN Go.cu Go.Conc.Lib
open Go.ConcR (KK WgAt stA smA rd wr g_of_ofEvents Payload DC0 again_blocked Bk ofEvent_loc_mark ofEvent_cell bk_of_mute)
variable[Inhabited aV]
section
variable{S:Site}{O C:Nat→Nat→Prop}{bx pre:Nat→Nat}{rk:Nat→Rank S.P}{j:Nat}{gs:Array Goroutine}{w w':World}{sl:Option (Nat × Nat)}{t:Trace}{D:Nat→WD}{tag:CTag}{b f0 d0:Nat}{a:Goroutine}{st sm:Int}
theorem jy{O1 C0:Nat→Prop}{e:Event}(h:Qu O1 C0 e):e.loc≠.mark .disable∧e.loc≠.mark .enable∧∀q,e.loc≠.mark (.release q):=by
 rcases h with rfl|⟨_,⟨q,h,_⟩|⟨q,h,_⟩⟩
 ·exact⟨zs,zs,zs⟩
 ·exact⟨by simp[h],by simp[h],by simp[h]⟩
 ·exact⟨by simp[h],by simp[h],by simp[h]⟩
theorem mem_ofEvents{k:Nat}{fn:FuncId}{pos:String}{es:Array Event}{op:MemOp}(h:op∈MemOp.ofEvents k fn pos es):∃e∈es,op={g:=k,fn,pos,act:=.ofEvent e }:=mem_seen h
theorem MU{k:Nat}{O1:Nat→Prop}{es:Array Event}(hL:Lay O C S.Sh w)(d:Did (C k) (O k) O1 w w' es.toList)(hT:Qh t w)(fn:FuncId)(pos:String):Qh (t ++ MemOp.ofEvents k fn pos es) w':=by
 refine oL hT d.size fun op hop x hx q hq=>?_
 obtain⟨e,he,rfl⟩:=mem_ofEvents hop
 have hL':=hL.did d
 rcases lW (d.evs e (by simpa using he)) hx hq with h|h
 ·exact hL'.Mg k q (by rw[bK];exact h)
 ·exact hL'.Oe k q h
theorem Lp{k:Nat}{O1 C0:Nat→Prop}{es:Array Event}(h:∀e∈es,Qu O1 C0 e)(fn:FuncId)(pos:String):MZ S (MemOp.ofEvents k fn pos es):=fun op hop _ x hx hk=>by
 obtain⟨e,he,rfl⟩:=mem_ofEvents hop
 rcases h e he with rfl|⟨hs,h⟩
 ·simp[MemAct.ofEvent,MemAct.touch?] at hx
 ·obtain⟨loc,wr,sy⟩:=e
  simp only at hs h
  subst hs
  rcases h with⟨q,rfl,_⟩|⟨q,rfl,_⟩ <;> cases wr <;> simp[MemAct.ofEvent,MemAct.touch?] at hx <;> subst hx <;> cases hk
theorem Rk{k:Nat}{es:Array Event}(h:∀e∈es,∀x,(MemAct.ofEvent e).touch?=some x→ShN S.Wg x.loc)(fn:FuncId)(pos:String):MZ S (MemOp.ofEvents k fn pos es):=fun op hop _ x hx _=>by
 obtain⟨e,he,rfl⟩:=mem_ofEvents hop
 exact h e he x hx
theorem qY{u:Trace}(h:∀op∈u,op.act.touch?=none):MZ S u:=fun op hop _ x hx=>by rw[h op hop] at hx;cases hx
theorem TJ(hS:S.Ok)(ha:gs[0]? =some a)(hm:iZ S j (rk 0) tag b f0 d0 a w (O 0))(hc:Com S O C bx pre rk j gs w t D d0)(hwg:WgAt S.ty S.Wg w st sm)(hmode:ConcN.Mode j D tag st sm)
 {i:Nat}(hi:i<j){g g':Goroutine}{O1:Nat→Prop}{es:Array Event}{x':Rank S.P}(hg:gs[i+1]? =some g)(hgo:stepG S.P false g w=.go g' w' es)(d:Did (C (i+1)) (O (i+1)) O1 w w' es.toList)
 (h7:(D i).stage=7)(hd:(D i).deaf=0)(hs':Dn S i (bx i) x' (pre i) 7 0 0 g' w' O1)(hr:kS S.P x' (rk (i+1))):
 ∃m₁ ops μ',runT S.P (crowd gs w sl) (i+1)=(.next m₁,ops)∧yU S μ' (mu S j D tag b pre rk f0)∧Inv S μ' m₁ (t ++ ops):=by
 have hev:∀e∈es,Qu O1 (C (i+1)) e:=fun e he=>d.evs e (by simpa using he)
 have hbW:w'.heap[S.Wg]? =w.heap[S.Wg]?:=hc.lay.shared d (.inl rfl)
 refine Iy hS ha hm hc hi hg hgo (hc.lay.did d) (fun k hk=>hc.lay.keeps d hk) (fun q hq=>hc.lay.common d hq) ⟨d.os,d.output,d.tape⟩ ?_ hs' (cF hc.lay d hc.Qo hc.ct zo zo _ _) (MU hc.lay d hc.Qo _ _) (Lp hev _ _)
  (fun e he=>(jy (hev e he)).2.2 _) (by rw[hd];exact deafBehind_idle (fun e he=>⟨(jy (hev e he)).1,(jy (hev e he)).2.1⟩) 0) (fun h=>absurd h zo) (st':=st) (sm':=sm) (by unfold WgAt at *;rw[hbW];exact hwg)
  (fun tag' ht _=>ConcN.Mode.retag (by have:=hmode.same (i:=i) 0 0;rwa[h7] at this) ht) (.inr (.inl ⟨h7.symm,rfl,hr⟩))
 rw[tX]
 exact hc.sent.congr (hc.lay.shared d (.inr rfl)) fun _ _=>Iff.rfl
theorem Jo(hS:S.Ok)(ha:gs[0]? =some a)(hm:iZ S j (rk 0) tag b f0 d0 a w (O 0))(hc:Com S O C bx pre rk j gs w t D d0)
 {i:Nat}(hi:i<j){g g':Goroutine}{es:Array Event}{s' m' d':Nat}{st' sm':Int}(hg:gs[i+1]? =some g)(hgo:stepG S.P false g w=.go g' w' es)(hAs:Aside S.Wg w w')(hwg:WgAt S.ty S.Wg w' st' sm')
 (hev:∀e∈es,∀x,(MemAct.ofEvent e).touch?=some x→ShN S.Wg x.loc∧x.kind≠.plain∧x.kind≠.said)(hnr:∀e∈es,e.loc≠.mark (.release (stA S.Wg)))
 (hs':Dn S i (bx i) (rk (i+1)) (pre i) s' m' d' g' w' (O (i+1)))(hdk:deafBehind (D i).deaf es=d')
 (hrel:s'≤6→∃r,RelBy (stA S.Wg) (t ++ MemOp.ofEvents (i+1) g.frame.fn g.frame.place es) (i+1) r)
 (hmode:∀tag',(tag'=tag∨(tag=.blk∧tag'=.w3))→(mayWake S.P g=true→g'.status=.running→tag'≠.blk)→ConcN.Mode j (upd D i ⟨s',m',d'⟩) tag' st' sm')
 (hlt:(s'<(D i).stage∧cnt ⟨s',m',d'⟩≤cnt (D i))∨(s'=(D i).stage∧m'<(D i).fuel)):
 ∃m₁ ops μ',runT S.P (crowd gs w sl) (i+1)=(.next m₁,ops)∧yU S μ' (mu S j D tag b pre rk f0)∧Inv S μ' m₁ (t ++ ops):=by
 have hkp:∀k,Keeps (C k) (O k) w w':=fun k q hq=>hAs.block q (by
  rcases hq with h|h
  ·exact fun e=>hc.lay.nu k q h (.inl e)
  ·exact fun e=>hc.lay.cS k q h (.inl e))
 have jf:Lay O C S.Sh w':=hc.lay.grow (Nat.le_of_eq hAs.size.symm)
 have hok:∀op∈MemOp.ofEvents (i+1) g.frame.fn g.frame.place es,OkW (In S.Sh) (gY O) (Dk C) (i+1) op:=fun op hop=>by
  obtain⟨e,he,rfl⟩:=mem_ofEvents hop
  refine⟨rfl,fun x hx=>.inl ?_⟩
  obtain⟨⟨q,h1,h2⟩,h3⟩:=hev e he x hx
  exact⟨by rw[h1];exact .inl h2,h3⟩
 refine Iy hS ha hm hc hi hg hgo (O1:=O (i+1)) (x':=rk (i+1)) (p':=pre i) (by rw[jX];exact jf) (fun k _=>hkp k) (fun q hq=>hkp (i+1) q (.inr hq)) ⟨hAs.os,hAs.output,hAs.tape⟩ ?_ hs' (by rw[jX];exact hc.ct.appW hc.lay.apart zo zo hok) ?_ (Rk (fun e he x hx=>(hev e he x hx).1) _ _) hnr hdk hrel hwg hmode ?_
 ·rw[tX];exact hc.sent.congr (hAs.block _ (Ne.symm hS.wc)) fun _ _=>Iff.rfl
 ·refine oL hc.Qo (Nat.le_of_eq hAs.size.symm) fun op hop x hx q hq=>?_
  obtain⟨e,he,rfl⟩:=mem_ofEvents hop
  obtain⟨⟨ad,h1,h2⟩,_⟩:=hev e he x hx
  rw[h1] at hq
  simp only[In] at hq
  have:=jf.Mh S.Wg (.inl rfl)
  omega
 ·rcases hlt with⟨h1,h2⟩|⟨h1,h2⟩
  ·exact .inl ⟨zo,h2⟩
  ·exact .inr (.inr ⟨h1,rfl,rfl,h2⟩)
theorem wK{es:Array Event}(h:∀e∈es,Bk S.Wg e):∀e∈es,∀x,(MemAct.ofEvent e).touch?=some x→ShN S.Wg x.loc∧x.kind≠.plain∧x.kind≠.said:=fun e he x hx=>by
 rcases h e he with h1|h1|⟨q,wr,rfl,hq⟩
 ·rw[ofEvent_loc_mark h1] at hx;cases hx
 ·rw[ofEvent_loc_mark h1] at hx;cases hx
 ·simp only[ofEvent_cell,MemAct.touch?,Option.some.injEq] at hx
  subst hx
  exact⟨⟨q,rfl,hq⟩,zs,zs⟩
theorem NS{es:Array Event}(h:∀e∈es,EvW S.Wg F0 F0 1 e):∀e∈es,∀x,(MemAct.ofEvent e).touch?=some x→ShN S.Wg x.loc∧x.kind≠.plain∧x.kind≠.said:=fun e he x hx=>by
 rcases((h e he).1 0 "").2 x hx with h|h|⟨h,_⟩
 ·exact h
 ·exact h.elim
 ·exact h.elim
theorem Dv(hab:S.bA≠S.bB)(h1:@AsideCell S.pA S.bA 1 0 w w')(h2:@AsideCell S.pB S.bB 1 0 w w'):Aside S.Wg w w':=by
 obtain⟨a1,a2,a3,a4,a5,_,_⟩:=h1
 obtain⟨_,_,_,_,c5,_,_⟩:=h2
 exact⟨a1,a2,a3,a4,fun k _=>by
  by_cases e:k=S.bA
  ·subst e;exact c5 _ hab
  ·exact a5 k e⟩
end
section
variable{S:Site}{O C:Nat→Nat→Prop}{bx pre:Nat→Nat}{rk:Nat→Rank S.P}{j:Nat}{gs:Array Goroutine}{w w':World}{sl:Option (Nat × Nat)}{t:Trace}{D:Nat→WD}{tag:CTag}{b f0 d0:Nat}{a:Goroutine}{st sm:Int}{i:Nat}
theorem xE{x:WD}(h:OpenSt j D)(hx:x.stage=7∨x.stage=6∨x.stage=5∨x.stage=1):OpenSt j (upd D i x):=fun k hk=>by
 unfold upd
 split
 ·exact hx
 ·exact h k hk
theorem G5{x:WD}(h:∀k,k<j→k≠i→(D k).stage=1):∀k,k<j→k≠i→(upd D i x k).stage=1:=fun k hk e=>by rw[upd_ne D _ e];exact h k hk e
theorem OB(h:ConcN.Mode j D tag st sm)(hi:i<j)(h5:(D i).stage=5):
 ∃v wt:Nat,wt≤1∧v<j+pend tag∧st=((v:Int)+1) * KK+wt∧sm=0∧(¬ (v=0∧wt=1)→∀z,ConcN.Mode j (upd D i ⟨1,z,1⟩) tag ((v:Int) * KK+wt) 0)∧((v=0∧wt=1)→∀z,ConcN.Mode j (upd D i ⟨4,z,1⟩) tag ((v:Int) * KK+wt) 0):=by
 have hV:=Vc_le j D
 have c1:cnt (D i)=1:=by simp[cnt,h5]
 have hpos:1≤Vc j D:=by have:=le_sumTo (f:=fun x=>cnt (D x)) hi;simp only[Vc];omega
 have gone:∀z,Vc j (upd D i ⟨1,z,1⟩)+1=Vc j D:=fun z=>by
  have:=Vc_upd D (⟨1,z,1⟩:WD) hi
  have:cnt (⟨1,z,1⟩:WD)=0:=rfl
  omega
 cases h with
 | opn h1 h2 h3=>
   refine⟨Vc j D+pend tag - 1,0,zo,zo,?_,rfl,fun _ z=>?_,fun h=>absurd h.2 zD⟩
   ·rw[show((Vc j D+pend tag:Nat):Int)=((Vc j D+pend tag - 1:Nat):Int)+1 by omega];simp
   ·have:=ConcN.Mode.opn (j:=j) (D:=upd D i ⟨1,z,1⟩) h1 (xE h2 zs) (fun vs e=>by have:=h3 vs e;have:=gone z;omega)
    rw[show Vc j (upd D i ⟨1,z,1⟩)+pend tag=Vc j D+pend tag - 1 by have:=gone z;omega] at this
    simpa using this
 | reg h1 h2 h3=>
   refine⟨Vc j D - 1,1,zo,zo,?_,rfl,fun hv z=>?_,fun hv z=>?_⟩
   ·rw[show((Vc j D:Nat):Int)=((Vc j D - 1:Nat):Int)+1 by omega];simp
   ·have:=ConcN.Mode.reg (j:=j) (D:=upd D i ⟨1,z,1⟩) h1 (xE h2 zs) (by have:=gone z;omega)
    rw[show Vc j (upd D i ⟨1,z,1⟩)=Vc j D - 1 by have:=gone z;omega] at this
    simpa using this
   ·have hq:=others_uncounted hi (show Vc j D=1 by omega) c1
    have:=ConcN.Mode.last (j:=j) (D:=upd D i ⟨4,z,1⟩) (tag:=tag) i h1 hi (by rw[upd_same];simp) (G5 fun k hk e=>by
     have a1:=hq k hk e
     have a2:=h2 k hk
     unfold cnt at a1
     split at a1 <;> omega)
    rw[upd_same] at this
    simpa [hv.1] using this
 | last L _ h2 h3 h4=>
   by_cases e:i=L
   ·subst e;omega
   ·have:=h4 i hi e;omega
 | sema h2=>have:=h2 i hi;omega
 | fin _ h2=>have:=h2 i hi;omega
theorem tH(h:ConcN.Mode j D tag st sm)(hi:i<j)(h4:(D i).stage=4∨(D i).stage=3∨(D i).stage=2):st=(if (D i).stage=2 then 0 else 1)∧sm=0∧isW3 tag∧
 (∀s' z,s'=3∨s'=2→ConcN.Mode j (upd D i ⟨s',z,1⟩) tag (if s'=2 then 0 else 1) 0)∧(∀z,AllQuit j (upd D i ⟨1,z,0⟩)):=by
 obtain⟨h1,h2,h3,h5⟩:=h.isLast hi h4
 refine⟨h3,h5,h1,fun s' z hs=>?_,fun z k hk=>?_⟩
 ·have:=ConcN.Mode.last (j:=j) (D:=upd D i ⟨s',z,1⟩) (tag:=tag) i h1 hi (by rw[upd_same];simp only;omega) (G5 h2)
  rwa[upd_same] at this
 ·by_cases e:k=i
  ·subst e;rw[upd_same]
  ·rw[upd_ne D _ e];exact h2 k hk e
def Nc(d:Nat)(es:Array Event):Prop:=∀k e,es[k]? =some e→(MemAct.ofEvent e).touch?=none∨0<deafBehind d (es.extract 0 k)
theorem pQ{d:Nat}{es:Array Event}(h:∀e∈es,e.loc=.mark .disable∨e.loc=.mark .enable):Nc d es:=fun k e he=>.inl (by
 rcases h e (Array.mem_of_getElem? he) with h1|h1 <;> rw[ofEvent_loc_mark h1] <;> rfl)
theorem Ua{d:Nat}:Nc d #[]:=fun k e he=>by simp at he
theorem Hq(e:Event):Nc 1 #[e]:=fun k x hx=>by
 cases k with
 | zero=>exact .inr (by simp[deafBehind])
 | succ k=>simp at hx
theorem XU(Wg:Nat):Nc 1 #[rd (stA Wg),wr (stA Wg)]:=fun k x hx=>by
 rcases k with _|_|k
 ·exact .inr (by simp[deafBehind])
 ·exact .inr (by simp[deafBehind,rd])
 ·simp at hx
theorem Ub(ad:Addr)(d:Nat):Nc d (semEvents ad):=fun k x hx=>by
 rcases k with _|_|_|_|k
 ·simp[semEvents] at hx;subst hx;exact .inl rfl
 ·exact .inr (by simp[deafBehind,semEvents])
 ·exact .inr (by simp[deafBehind,semEvents])
 ·simp[semEvents] at hx;subst hx;exact .inl rfl
 ·simp[semEvents] at hx
theorem qp:∀e∈#[Go.ConcR.mk .disable],Bk S.Wg e:=by intro e he;simp at he;subst he;exact .inl rfl
theorem sN:∀e∈#[Go.ConcR.mk .enable],Bk S.Wg e:=by intro e he;simp at he;subst he;exact .inr (.inl rfl)
theorem bk_rw:∀e∈#[rd (stA S.Wg),wr (stA S.Wg)],Bk S.Wg e:=by intro e he;simp at he;rcases he with rfl|rfl <;> exact bk_cell _ _ rfl
theorem bk_rd:∀e∈#[rd (stA S.Wg)],Bk S.Wg e:=by intro e he;simp at he;subst he;exact bk_cell _ _ rfl
theorem n4:∀e∈#[wr (stA S.Wg)],Bk S.Wg e:=by intro e he;simp at he;subst he;exact bk_cell _ _ rfl
theorem bk_sem:∀e∈semEvents (smA S.Wg),Bk S.Wg e:=by
 intro e he
 simp[semEvents] at he
 rcases he with rfl|rfl|rfl|rfl
 ·exact .inl rfl
 ·exact bk_cell _ _ rfl
 ·exact bk_cell _ _ rfl
 ·exact .inr (.inl rfl)
theorem qE(hS:S.Ok)(ha:gs[0]? =some a)(hm:iZ S j (rk 0) tag b f0 d0 a w (O 0))(hc:Com S O C bx pre rk j gs w t D d0)(hi:i<j){g g':Goroutine}(hg:gs[i+1]? =some g)(hpre:pre i=0)(h6:(D i).stage≤6)
 {es:Array Event}{s' m' d':Nat}{st' sm':Int}(hgo:stepG S.P false g w=.go g' w' es)(hAs:Aside S.Wg w w')(hwg:WgAt S.ty S.Wg w' st' sm')(hbk:∀e∈es,Bk S.Wg e)(rl:Nc (D i).deaf es)(hl:S.Late s' m' d' g' w')
 (hd:deafBehind (D i).deaf es=d')(hmode:∀tag',(tag'=tag∨(tag=.blk∧tag'=.w3))→(mayWake S.P g=true→g'.status=.running→tag'≠.blk)→ConcN.Mode j (upd D i ⟨s',m',d'⟩) tag' st' sm')
 (hlt:s'<(D i).stage∨(s'=(D i).stage∧m'<(D i).fuel)):∃m₁ ops μ',runT S.P (crowd gs w sl) (i+1)=(.next m₁,ops)∧yU S μ' (mu S j D tag b pre rk f0)∧Inv S μ' m₁ (t ++ ops):=by
 have hcnt:cnt ⟨s',m',d'⟩≤cnt (D i):=by unfold cnt;simp only;split <;> split <;> omega
 exact Jo hS ha hm hc hi hg hgo hAs hwg (wK hbk) (norel_of_Bk hbk) (by rw[hpre];exact .late zo hl) hd (fun _=>let ⟨r,hr⟩:=hc.rel i hi h6;⟨r,hr.book (hc.deafW i hi) _ _ hbk rl⟩) hmode (hlt.imp (fun h=>⟨h,hcnt⟩) id)
theorem H9(pl:Payload){q:Nat}{v:Value}(qQ:∀s m d g w,@WSit pl S.P S.ty S.Wg q 1 F0 F0 0 1 v s m d g w→S.Late s m d g w)
 (hS:S.Ok)(ha:gs[0]? =some a)(hm:iZ S j (rk 0) tag b f0 d0 a w (O 0))(hc:Com S O C bx pre rk j gs w t D d0)(hwg:WgAt S.ty S.Wg w st sm)(hmode:ConcN.Mode j D tag st sm)
 (hi:i<j){g:Goroutine}(hg:gs[i+1]? =some g)(hrun:g.status=.running)(hpre:pre i=0){s m dd:Nat}(hs:@WSit pl S.P S.ty S.Wg q 1 F0 F0 0 1 v s m dd g w)(h6:s≤6)
 (hst:(D i).stage=s)(hfu:(D i).fuel=m)(hde:(D i).deaf=dd):
 ∃m₁ ops μ',runT S.P (crowd gs w sl) (i+1)=(.next m₁,ops)∧yU S μ' (mu S j D tag b pre rk f0)∧Inv S μ' m₁ (t ++ ops):=by
 letI:=pl
 have hb:=hm.bound
 have hn:=hS.n31
 have stay:∀z dz,ConcN.Mode j (upd D i ⟨s,z,dz⟩) tag st sm:=fun z dz=>by have:=hmode.same (i:=i) z dz;rwa[hst] at this
 have idle:∀ {g':Goroutine} {m':Nat},stepG S.P false g w=.go g' w #[]→@WSit pl S.P S.ty S.Wg q 1 F0 F0 0 1 v s m' dd g' w→m'<m→
  ∃m₁ ops μ',runT S.P (crowd gs w sl) (i+1)=(.next m₁,ops)∧yU S μ' (mu S j D tag b pre rk f0)∧Inv S μ' m₁ (t ++ ops):=fun hgo hs' hlt=>
  qE hS ha hm hc hi hg hpre zo hgo (.refl S.Wg w) hwg zs Ua (qQ _ _ _ _ _ hs') (by rw[hde];rfl) (fun _ ht _=>(stay _ _).retag ht) (.inr ⟨hst.symm,zo⟩)
 cases hs with
 | r0 h=>omega
 | k1 h=>
   rcases Goes.cases h with hs|⟨m',rfl,hs⟩
   ·obtain⟨_,g',hgo,m₂,hk⟩:=hs w (RW.refl w)
    exact qE hS ha hm hc hi hg hpre zo hgo (.refl S.Wg w) hwg qp (pQ (by intro e he;simp at he;subst he;exact .inl rfl)) (qQ _ _ _ _ _ (.d1 hk)) (by rw[hde];rfl)
     (fun _ ht _=>(hmode.counted hi zo (.inr rfl) _ _).retag ht) (.inl zo)
   ·obtain⟨g',w',es,hgo,⟨rfl,rfl⟩,hk⟩:=hs w (RW.refl w)
    exact idle hgo (.k1 hk) zo
 | d1 h=>
   rcases Goes.cases h with hs|⟨m',rfl,hs⟩
   ·obtain⟨v,wt,hwt,hv,rfl,rfl,hleave,hlast⟩:=OB hmode hi hst
    obtain⟨g',hgo,hl,hq⟩:=(hs w (RW.refl w)).2 v wt hwt zo hwg
    have go1:∀ {s' m':Nat},s'<5→@WSit pl S.P S.ty S.Wg q 1 F0 F0 0 1 _ s' m' 1 g' (w.setCell (stA S.Wg) (.int .u64 ((v:Int) * KK+wt)))→ConcN.Mode j (upd D i ⟨s',m',1⟩) tag ((v:Int) * KK+wt) 0→
     ∃m₁ ops μ',runT S.P (crowd gs w sl) (i+1)=(.next m₁,ops)∧yU S μ' (mu S j D tag b pre rk f0)∧Inv S μ' m₁ (t ++ ops):=fun hs' hk hm'=>
     qE hS ha hm hc hi hg hpre zo hgo (aside_setCell w (stA S.Wg) _) (hwg.setSt _) bk_rw (by rw[hde];exact XU _) (qQ _ _ _ _ _ hk) (by rw[hde];rfl) (fun _ ht _=>hm'.retag ht) (.inl zo)
    by_cases hx:v=0∧wt=1
    ·obtain⟨m₂,hk⟩:=hl hx
     exact go1 zo (.d2 hk) (hlast hx _)
    ·obtain⟨z,hk⟩:=hq hx
     exact go1 zo (.quit hk) (hleave hx _)
   ·obtain⟨g',w',es,hgo,⟨rfl,rfl⟩,hk⟩:=hs w (RW.refl w)
    exact idle hgo (.d1 hk) zo
 | d2 h=>
   rcases Goes.cases h with hs|⟨m',rfl,hs⟩
   ·obtain⟨e1,e2,_,Sg,_⟩:=tH hmode hi zo
    rw[hst] at e1
    subst e1;subst e2
    obtain⟨g',hgo,m₂,hk⟩:=(hs w (RW.refl w)).2 hwg
    exact qE hS ha hm hc hi hg hpre zo hgo (.refl S.Wg w) hwg bk_rd (by rw[hde];exact Hq _) (qQ _ _ _ _ _ (.d3 hk)) (by rw[hde];rfl) (fun _ ht _=>(Sg 3 _ (.inl rfl)).retag ht) (.inl zo)
   ·obtain⟨g',w',es,hgo,⟨rfl,rfl⟩,hk⟩:=hs w (RW.refl w)
    exact idle hgo (.d2 hk) zo
 | d3 h=>
   rcases Goes.cases h with hs|⟨m',rfl,hs⟩
   ·obtain⟨e1,e2,_,Sg,_⟩:=tH hmode hi zo
    rw[hst] at e1
    subst e1;subst e2
    obtain⟨g',hgo,m₂,hk⟩:=(hs w (RW.refl w)).2 hwg
    exact qE hS ha hm hc hi hg hpre zo hgo (aside_setCell w (stA S.Wg) _) (hwg.setSt 0) n4 (by rw[hde];exact Hq _) (qQ _ _ _ _ _ (.d4 hk)) (by rw[hde];rfl) (fun _ ht _=>(Sg 2 _ (.inr rfl)).retag ht) (.inl zo)
   ·obtain⟨g',w',es,hgo,⟨rfl,rfl⟩,hk⟩:=hs w (RW.refl w)
    exact idle hgo (.d3 hk) zo
 | d4 h=>
   rcases Goes.cases h with hs|⟨m',rfl,hs⟩
   ·obtain⟨e1,e2,hw3,_,hall⟩:=tH hmode hi zo
    rw[hst] at e1
    subst e1;subst e2
    obtain⟨_,hmw,hx⟩:=hs w (RW.refl w)
    obtain⟨g',hgo,z,hk⟩:=hx hwg
    have hr:g'.status=.running:=by
     cases z with
     | zero=>exact absurd hk.2 zD
     | succ z=>
       rcases hk with⟨_,hk⟩|⟨hk,_⟩
       ·exact absurd hk zD
       ·exact hk
    refine qE hS ha hm hc hi hg hpre zo hgo (aside_setCell w (smA S.Wg) _) (hwg.setSm 1) bk_sem (Ub _ _) (d':=1) (qQ _ _ _ _ _ (.quit hk)) (by rw[hde];simp[deafBehind,semEvents]) (fun tag' ht hnb=>?_) (.inl zo)
    have hne:=hnb hmw hr
    have e3:tag'=.w3:=by
     rcases ht with rfl|⟨_,rfl⟩
     ·cases tag' <;> first|rfl|exact hw3.elim|exact absurd rfl hne
     ·rfl
    subst e3
    exact .sema fun k hk'=>by
     have:=hall z k hk'
     by_cases e:k=i
     ·subst e;rw[upd_same]
     ·rw[upd_ne D _ e] at this⊢;exact this
   ·obtain⟨g',w',es,hgo,⟨rfl,rfl⟩,hk⟩:=hs w (RW.refl w)
    exact idle hgo (.d4 hk) zo
 | quit h=>
   cases m with
   | zero=>rw[h.1] at hrun;cases hrun
   | succ z=>
     rcases h with⟨hf,_⟩|⟨_,g',es,hmute,hgo,hk⟩
     ·rw[hf] at hrun;cases hrun
     ·have hbk:∀e∈es,Bk S.Wg e:=fun e he=>bk_of_mute (hmute e he)
      refine qE hS ha hm hc hi hg hpre zo (hgo w) (.refl S.Wg w) hwg hbk (pQ fun e he=>?_) (qQ _ _ _ _ _ (.quit hk)) (by rw[hde]) (fun _ ht _=>(stay _ _).retag ht) (.inr ⟨hst.symm,zo⟩)
      rcases hbk e he with h1|h1|⟨ad,x,rfl,_⟩
      ·exact .inl h1
      ·exact .inr h1
      ·have:=hmute _ he;simp[Event.mute] at this
end
end
end Go.aO
