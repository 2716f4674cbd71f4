/- Crew4 Crew5 Crew6 Crew7 Crew8 -/
import Derived.Test.YthaelabgfnnebaaGreatC5
import Derived.Conc.CrowdRun
set_option maxRecDepth 100000
set_option maxHeartbeats 16000000
set_option linter.unusedVariables false
set_option linter.unusedSectionVars false
open Go.IntKind(i64)
open Go.Value(int)
namespace Go.aO
section
open Go.Conc Go.ConcN Go.cu Go.Conc.Lib
open Go.ConcR (KK WgAt stA smA rd wr g_of_ofEvents Payload DC0)
variable[Inhabited aS]
structure GX where
 C:Nat→Prop
 V:World→Prop
 main:Bool
 K:Goroutine→World→(Nat→Prop)→Prop
 g:Goroutine
 O:Nat→Prop
 v:Nat→Option Obj
noncomputable def mg(C:Nat→Prop)(V:World→Prop)(main:Bool)(K:Goroutine→World→(Nat→Prop)→Prop)(g:Goroutine)(w:World)(O:Nat→Prop):GX:=⟨C,V,main,K,g,O,view C O w⟩
structure rl(P:Program)(y x:GX):Prop where
 C:y.C=x.C
 V:y.V=x.V
 main:y.main=x.main
 K:y.K=x.K
 step:∃w2 w3 es,view x.C x.O w2=x.v∧x.V w2∧¬ x.K x.g w2 x.O∧stepG P x.main x.g w2=.go y.g w3 es∧Did x.C x.O y.O w2 w3 es.toList∧y.v=view x.C y.O w3
section
variable{P:Program}{main:Bool}{C:Nat→Prop}{V:World→Prop}{K:Goroutine→World→(Nat→Prop)→Prop}
theorem Ec{g:Goroutine}{w:World}{O:Nat→Prop}(h:Wk P main C V K g w O):Acc (rl P) (mg C V main K g w O):=by
 induction h with
 | @stop g w O h=>
   refine⟨_,fun y hy=>?_⟩
   obtain⟨w2,w3,es,e1,ev,e2,_⟩:=hy.step
   exact absurd (h w2 (wH e1) ev) e2
 | @step g w O X h0 h1 h2 ih=>
   refine⟨_,fun y hy=>?_⟩
   obtain⟨w2,w3,es,e1,ev,_,e2,e3,e4⟩:=hy.step
   obtain⟨g2,w3',O2,es',r1,r2,r3⟩:=h1 w2 (wH e1) ev
   have e2':stepG P main g w2=.go y.g w3 es:=e2
   rw[r1] at e2'
   cases e2'
   have eO:y.O=O2:=by
    funext b
    exact propext ((e3.own b).trans (r2.own b).symm)
   have:y=mg C V main K y.g w3 O2:=by
    have hC:=hy.C
    have hV:=hy.V
    have hm:=hy.main
    have hK:=hy.K
    obtain⟨yC,yV,ym,yK,yg,yO,yv⟩:=y
    simp only[mg] at eO e4 hC hV hm hK⊢
    subst eO;subst hC;subst hV;subst hm;subst hK
    simp only[e4]
   rw[this]
   exact ih _ w3 O2 r3
abbrev Rank(P:Program):={x:GX // Acc (rl P) x }
def kM(P:Program)(y x:Rank P):Prop:=rl P y.1 x.1
theorem Bp:WellFounded (kM P):=⟨fun⟨x,hx⟩=>by
 induction hx with
 | intro x hx ih=>exact⟨_,fun y hy=>ih y.1 hy⟩⟩
theorem Ee{g:Goroutine}{w:World}{O:Nat→Prop}(h:Wk P main C V K g w O)(hv:V w)(hn:¬ K g w O)(x:Rank P)(hx:x.1=mg C V main K g w O):
 g.status=.running∧∃g2 w3 O2 es,∃y:Rank P,stepG P main g w=.go g2 w3 es∧Did C O O2 w w3 es.toList∧Wk P main C V K g2 w3 O2∧y.1=mg C V main K g2 w3 O2∧kM P y x:=by
 cases h with
 | stop h=>exact absurd (h w (Keeps.refl C O w) hv) hn
 | step X h0 h1 h2=>
   obtain⟨g2,w3,O2,es,r1,r2,r3⟩:=h1 w (Keeps.refl C O w) hv
   refine⟨h0,g2,w3,O2,es,⟨_,Ec (h2 _ _ _ r3)⟩,r1,r2,h2 _ _ _ r3,rfl,?_⟩
   show rl P _ x.1
   rw[hx]
   exact⟨rfl,rfl,rfl,rfl,w,w3,es,rfl,hv,hn,r1,r2,rfl⟩
theorem rW{g:Goroutine}{w:World}{O:Nat→Prop}(h:Wk P main C V K g w O):∃x:Rank P,x.1=mg C V main K g w O:=⟨⟨_,Ec h⟩,rfl⟩
theorem mh{g:Goroutine}{w w2:World}{O:Nat→Prop}(k:Keeps C O w w2):mg C V main K g w2 O=mg C V main K g w O:=by simp only[mg,Kw k]
end
structure Site where
 P:Program
 L:WgLink
 Wg:Nat
 Ch:Nat
 n:Nat
 tab:Nat→Option Obj
 pA:Payload
 pB:Payload
 bA:Nat
 bB:Nat
 vA:Value
 vB:Value
 tI:TypeId
 bit:Nat→Bool
 Anch:Goroutine→World→Prop
 Fin:Goroutine→Prop
 os0:Os
 pD:Array (Nat × ByteArray)
 YX:Tape
section
variable(S:Site)
abbrev Site.ty:TypeId:=S.L.tWg
def Site.Cb(b:Nat):Prop:=S.tab b≠none
def Site.QK(i:Nat):Obj:=.cells #[int i64 i] S.tI
structure Site.V0(w:World):Prop where
 live:WgLive S.ty S.Wg w
 tab:∀b o,S.tab b=some o→w.heap[b]? =some o
 chan:∃buf s q,w.heap[S.Ch]? =some (.chan S.n buf false s q false)
 env:w.os=S.os0∧w.output=S.pD∧w.tape=S.YX
def Site.C1(bx:Nat)(b:Nat):Prop:=S.Cb b∨b=bx
def Site.V1(i bx:Nat)(w:World):Prop:=S.V0 w∧w.heap[bx]? =some (S.QK i)
def F0:Nat→Loc→Prop:=fun _ _=>False
def Site.GA(m:Nat)(g:Goroutine)(w:World):Prop:=Goes S.P false (@RW S.pA S.ty S.Wg S.bA 1 0 0) (@DWs S.pA S.Wg F0 F0 S.bA 1 1) (@AtR0 S.pA S.P S.ty S.Wg S.bA 1 0 1 S.vA) m g w
def Site.GB(m:Nat)(g:Goroutine)(w:World):Prop:=Goes S.P false (@RW S.pB S.ty S.Wg S.bB 1 0 0) (@DWs S.pB S.Wg F0 F0 S.bB 1 1) (@AtR0 S.pB S.P S.ty S.Wg S.bB 1 0 1 S.vB) m g w
def Site.Ci(g:Goroutine)(w:World):Prop:=(∃m,S.GA m g w)∧∃m,S.GB m g w
def Site.K7(g:Goroutine)(w:World)(_:Nat→Prop):Prop:=S.Ci g w
def Site.Qx(i bx:Nat)(g:Goroutine)(w:World)(O:Nat→Prop):Prop:=
 g.status=.running∧∃g2 z,stepG S.P false g w=.comm g2 #[scase S.Ch (int i64 i) z] true .send w #[]∧
  ∀w',Keeps (S.C1 bx) O w w'→S.V1 i bx w'→Wk S.P false (S.C1 bx) (S.V1 i bx) S.K7 (g2.finishComm S.P #[scase S.Ch (int i64 i) z] .send 0 undef false) w' O
def Site.K8(i bx:Nat)(g:Goroutine)(w:World)(O:Nat→Prop):Prop:=(S.bit i=true∧S.Qx i bx g w O)∨(S.bit i=false∧S.Ci g w)
def Site.Late(s m d:Nat)(g:Goroutine)(w:World):Prop:=@WSit S.pA S.P S.ty S.Wg S.bA 1 F0 F0 0 1 S.vA s m d g w∨@WSit S.pB S.P S.ty S.Wg S.bB 1 F0 F0 0 1 S.vB s m d g w
inductive Cy (i bx:Nat) (x:Rank S.P):Nat→Nat→Nat→Nat→Goroutine→World→(Nat→Prop)→Prop
 | p2 {g:Goroutine} {w:World} {O:Nat→Prop}:x.1=mg (S.C1 bx) (S.V1 i bx) false (S.K8 i bx) g w O→Wk S.P false (S.C1 bx) (S.V1 i bx) (S.K8 i bx) g w O→Cy i bx x 2 7 0 0 g w O
 | p1 {g:Goroutine} {w:World} {O:Nat→Prop}:x.1=mg (S.C1 bx) (S.V1 i bx) false S.K7 g w O→Wk S.P false (S.C1 bx) (S.V1 i bx) S.K7 g w O→Cy i bx x 1 7 0 0 g w O
 | r0 {m m':Nat} {g:Goroutine} {w:World} {O:Nat→Prop}:S.GA m g w→S.GB m' g w→Cy i bx x 0 7 (m+m') 0 g w O
 | late {s m d:Nat} {g:Goroutine} {w:World} {O:Nat→Prop}:s≤6→S.Late s m d g w→Cy i bx x 0 s m d g w O
abbrev Site.RL(w w₁:World):Prop:=rN S.L S.Wg w w₁
abbrev Site.GL(Stop:Goroutine→World→Prop)(m:Nat)(g:Goroutine)(w:World):Prop:=gD S.P S.L S.Wg Stop m g w
abbrev Site.fL(R g:Goroutine)(w:World):Prop:=aO.fL S.P S.L S.Wg R g w
abbrev Site.ij(R g:Goroutine)(w:World):Prop:=aO.ij S.P S.L S.Wg R g w
abbrev Site.ib(R g:Goroutine)(w:World):Prop:=aO.ib S.P S.L S.Wg R g w
abbrev Site.ie(R g:Goroutine)(w:World):Prop:=aO.ie S.P S.L S.Wg R g w
abbrev Site.Yp(g:Goroutine)(w:World):Prop:=aO.Yp S.P S.L S.Wg S.Fin g w
abbrev Site.W4(g:Goroutine)(w:World):Prop:=aO.W4 S.P S.L S.Wg S.Fin g w
abbrev Site.W3(g:Goroutine)(w:World):Prop:=aO.W3 S.P S.L S.Wg S.Fin g w
abbrev Site.kO(g:Goroutine)(w:World):Prop:=aO.kO S.P S.L S.Wg S.Fin g w
abbrev Site.W1(g:Goroutine)(w:World):Prop:=aO.W1 S.P S.L S.Wg S.Anch S.Fin g w
abbrev Site.ZK(g:Goroutine)(w:World):Prop:=aO.ZK S.P S.L S.Wg S.Anch g w
abbrev Site.Iq(g:Goroutine)(w:World):Prop:=aO.Iq S.P S.Wg S.Fin g w
abbrev Site.W2(vs:Nat)(g:Goroutine)(w:World):Prop:=aO.W2 S.P S.L S.Wg S.Anch S.Fin vs g w
def Site.Ih(i:Nat)(Next:Goroutine→World→Prop)(g:Goroutine)(w:World)(O:Nat→Prop):Prop:=
 g.status=.running∧∃g' child bx,stepG S.P true g w=.spawn g' child w #[]∧child.status=.running∧(∀b,O b↔b=bx)∧w.heap[bx]? =some (S.QK i)∧
  Wk S.P false (S.C1 bx) (S.V1 i bx) (S.K8 i bx) child w (fun _=>False)∧Next g' w
def Site.Cont(i:Nat)(Next:Goroutine→World→Prop)(R:Goroutine)(w:World)(O:Nat→Prop):Prop:=
 ∀w',Keeps S.Cb O w w'→S.V0 w'→Wk S.P true S.Cb S.V0 (S.Ih i Next) R w' O
def Site.yj(i:Nat)(Next:Goroutine→World→Prop)(g:Goroutine)(w:World)(O:Nat→Prop):Prop:=∃R,S.ie R g w∧S.Cont i Next R w O
def Site.Sp:Nat→Goroutine→World→Prop
 | 0,g,w=>∃m,S.GL S.ZK m g w
 | r+1,g,w=>Wk S.P true S.Cb S.V0 (S.yj (S.n - (r+1)) (Site.Sp r)) g w (fun _=>False)
def lU:Nat→Prop:=fun _=>False
inductive iT (j:Nat) (x:Rank S.P):CTag→Nat→Nat→Nat→Goroutine→World→(Nat→Prop)→Prop
 | skd {r:Nat} {g:Goroutine} {w:World} {O:Nat→Prop}:j+(r+1)=S.n→x.1=mg S.Cb S.V0 true (S.yj j (S.Sp r)) g w O→Wk S.P true S.Cb S.V0 (S.yj j (S.Sp r)) g w O→iT j x (.sp r 5) 0 0 0 g w O
 | sa1 {r m:Nat} {R g:Goroutine} {w:World} {O:Nat→Prop}:j+(r+1)=S.n→S.GL (S.ib R) m g w→S.Cont j (S.Sp r) R w O→iT j x (.sp r 4) 0 m 1 g w O
 | gO {r m:Nat} {R g:Goroutine} {w:World} {O:Nat→Prop}:j+(r+1)=S.n→S.GL (S.ij R) m g w→S.Cont j (S.Sp r) R w O→iT j x (.sp r 3) 0 m 1 g w O
 | ske {r m:Nat} {R g:Goroutine} {w:World} {O:Nat→Prop}:j+(r+1)=S.n→S.GL (S.fL R) m g w→S.Cont j (S.Sp r) R w O→iT j x (.sp r 2) 0 m 1 g w O
 | dr {r m:Nat} {R g:Goroutine} {w:World} {O:Nat→Prop}:j+(r+1)=S.n→S.GL (fun g _=>g=R) m g w→S.Cont j (S.Sp r) R w O→iT j x (.sp r 1) 0 m 0 g w O
 | sgo {r:Nat} {g:Goroutine} {w:World} {O:Nat→Prop}:j+(r+1)=S.n→x.1=mg S.Cb S.V0 true (S.Ih j (S.Sp r)) g w O→Wk S.P true S.Cb S.V0 (S.Ih j (S.Sp r)) g w O→iT j x (.sp r 0) 0 0 0 g w O
 | kd {m:Nat} {g:Goroutine} {w:World}:j=S.n→S.GL S.ZK m g w→iT j x .kd 0 m 0 g w lU
 | anch {m:Nat} {g:Goroutine} {w:World}:j=S.n→S.GL S.Anch m g w→iT j x .anch 0 m 1 g w lU
 | w1 {m:Nat} {g:Goroutine} {w:World}:j=S.n→S.GL S.W1 m g w→iT j x .w1 0 m 1 g w lU
 | w2 {vs m:Nat} {g:Goroutine} {w:World}:j=S.n→S.GL (S.W2 vs) m g w→iT j x (.w2 vs) 0 m 1 g w lU
 | wr {m:Nat} {g:Goroutine} {w:World}:j=S.n→S.GL S.kO m g w→iT j x .w3 1 m 1 g w lU
 | w3 {m:Nat} {g:Goroutine} {w:World}:j=S.n→S.GL S.W3 m g w→iT j x .w3 0 (m+1) 1 g w lU
 | blk {g:Goroutine} {w:World}:j=S.n→(∀w₁,S.RL w w₁→S.W3 g w₁)→iT j x .blk 0 0 1 {g with status:=.blocked } w lU
 | w4 {m:Nat} {g:Goroutine} {w:World}:j=S.n→S.GL S.W4 m g w→iT j x .w4 0 m 1 g w lU
 | ke {m:Nat} {g:Goroutine} {w:World}:j=S.n→S.GL S.Yp m g w→iT j x .ke 0 m 1 g w lU
 | acq {m:Nat} {g:Goroutine} {w:World}:j=S.n→S.GL S.Iq m g w→iT j x .acq 0 m 0 g w lU
end
end
section
open Go.Conc Go.ConcN Go.cu Go.Conc.Lib
open Go.ConcR (KK WgAt stA smA rd wr g_of_ofEvents Payload DC0 again_blocked)
variable[Inhabited aS]
structure Site.Ok(S:Site):Prop where
 cA:S.tab S.bA=some (.cells #[S.vA] (@Payload.ety S.pA))
 cB:S.tab S.bB=some (.cells #[S.vB] (@Payload.ety S.pB))
 ab:S.bA≠S.bB
 aW:S.bA≠S.Wg
 bW:S.bB≠S.Wg
 wc:S.Wg≠S.Ch
 n31:S.n<2147483648
 run:∀g w,S.Anch g w→g.status=.running
 anch:∀g w,S.Anch g w→∃m,S.GL S.W1 m g w
section
variable{S:Site}{i bx p s m d j b f:Nat}{x:Rank S.P}{g:Goroutine}{w w2:World}{O:Nat→Prop}{tag:CTag}
theorem Site.Ok.bA(h:S.Ok):S.Cb S.bA:=by simp[Site.Cb,h.cA]
theorem Site.Ok.bB(h:S.Ok):S.Cb S.bB:=by simp[Site.Cb,h.cB]
theorem LX{q:Nat}(hb:S.Cb q)(k:Keeps (S.C1 bx) O w w2)(hl:WgLive S.ty S.Wg w2)(pl:Payload):@RW pl S.ty S.Wg q 1 0 0 w w2:=by
 have e:w2.heap[q]? =w.heap[q]?:=k q (.inr (.inl hb))
 exact⟨fun _ h=>absurd h (Nat.not_lt_zero _),fun _=>hl,fun⟨cs,h,hn⟩=>⟨cs,e.trans h,hn⟩,cell_of_block e 0⟩
theorem Site.GA.rely(h:S.GA m g w)(r:@RW S.pA S.ty S.Wg S.bA 1 0 0 w w2):S.GA m g w2:=by
 have tr:∀u v z,@RW S.pA S.ty S.Wg S.bA 1 0 0 u v→@RW S.pA S.ty S.Wg S.bA 1 0 0 v z→@RW S.pA S.ty S.Wg S.bA 1 0 0 u z:=fun _ _ _ a b=>@RW.trans S.pA _ _ _ _ _ _ _ _ _ a b
 exact Goes.rely tr h r
theorem Site.GB.rely(h:S.GB m g w)(r:@RW S.pB S.ty S.Wg S.bB 1 0 0 w w2):S.GB m g w2:=by
 have tr:∀u v z,@RW S.pB S.ty S.Wg S.bB 1 0 0 u v→@RW S.pB S.ty S.Wg S.bB 1 0 0 v z→@RW S.pB S.ty S.Wg S.bB 1 0 0 u z:=fun _ _ _ a b=>@RW.trans S.pB _ _ _ _ _ _ _ _ _ a b
 exact Goes.rely tr h r
theorem Site.GA.running(h:S.GA m g w):g.status=.running:=Goes.running (fun _ _ x=>x.1) w (@RW.refl S.pA _ _ _ _ _ _ w) h
theorem Nv(hS:S.Ok)(h:S.Late s m d g w)(k:Keeps (S.C1 bx) O w w2)(hl:WgLive S.ty S.Wg w2):S.Late s m d g w2:=by
 rcases h with h|h
 ·exact .inl (@WSit.rely S.pA _ _ _ _ _ _ _ _ _ _ _ _ _ _ _ _ h (LX hS.bA k hl S.pA))
 ·exact .inr (@WSit.rely S.pB _ _ _ _ _ _ _ _ _ _ _ _ _ _ _ _ h (LX hS.bB k hl S.pB))
theorem Dp(h:S.Late s m d g w)(hs:s≠1):g.status=.running:=by
 rcases h with h|h
 ·exact @WSit.running_of S.pA _ _ _ _ _ _ _ _ _ _ _ _ _ _ _ h hs
 ·exact @WSit.running_of S.pB _ _ _ _ _ _ _ _ _ _ _ _ _ _ _ h hs
theorem FT(h:S.Late s m d g w):g.status=.running∨g.status=.finished:=by
 rcases h with h|h
 ·exact @WSit.status S.pA _ _ _ _ _ _ _ _ _ _ _ _ _ _ _ h
 ·exact @WSit.status S.pB _ _ _ _ _ _ _ _ _ _ _ _ _ _ _ h
theorem Cy.keeps(hS:S.Ok)(h:Cy S i bx x p s m d g w O)(k:Keeps (S.C1 bx) O w w2)(hl:WgLive S.ty S.Wg w2):Cy S i bx x p s m d g w2 O:=by
 cases h with
 | p2 hx h=>exact .p2 (hx.trans (mh k).symm) (h.keeps k)
 | p1 hx h=>exact .p1 (hx.trans (mh k).symm) (h.keeps k)
 | r0 h1 h2=>exact .r0 (h1.rely (LX hS.bA k hl _)) (h2.rely (LX hS.bB k hl _))
 | late hs h=>exact .late hs (Nv hS h k hl)
theorem Cy.running_of(h:Cy S i bx x p s m d g w O)(hv:S.V1 i bx w)(hs:s≠1):g.status=.running:=by
 cases h with
 | p2 hx h=>
   cases h with
   | stop h=>
     rcases h w (Keeps.refl _ O w) hv with⟨_,h⟩|⟨_,⟨_,h⟩,_⟩
     ·exact h.1
     ·exact Site.GA.running h
   | step X h0 h1 h2=>exact h0
 | p1 hx h=>
   cases h with
   | stop h=>exact Site.GA.running (h w (Keeps.refl _ O w) hv).1.choose_spec
   | step X h0 h1 h2=>exact h0
 | r0 h1 h2=>exact Site.GA.running h1
 | late _ h=>exact Dp h hs
theorem Cy.status(h:Cy S i bx x p s m d g w O)(hv:S.V1 i bx w):g.status=.running∨g.status=.finished:=by
 by_cases hs:s=1
 ·cases h with
  | late _ h=>exact FT h
  | p2 _ _=>omega
  | p1 _ _=>omega
  | r0 _ _=>omega
 ·exact .inl (h.running_of hv hs)
theorem Cy.woken(h:Cy S i bx x p s m d g w O)(hv:S.V1 i bx w)(a a':Goroutine)(w':World):woken S.P a a' w' g=g:=by
 unfold Go.Conc.woken
 split
 ·exact again_running _ (h.status hv)
 ·rfl
theorem fu{P:Program}{L:WgLink}{Wg:Nat}{K:Goroutine→World→Prop}(h:gD P L Wg K m g w)(hl:WgLive L.tWg Wg w2):gD P L Wg K m g w2:=Goes.rely (fun _ _ _ a b x=>b (a x)) h fun _=>hl
theorem bM{P:Program}{L:WgLink}{Wg:Nat}{K:Goroutine→World→Prop}(hK:∀g w,K g w→g.status=.running)(h:gD P L Wg K m g w):g.status=.running:=Goes.running hK w (fun x=>x) h
theorem iq{Next:Goroutine→World→Prop}{R:Goroutine}(h:S.Cont i Next R w O)(k:Keeps S.Cb O w w2):S.Cont i Next R w2 O:=fun w' k' v'=>h w' (k.trans k') v'
theorem iT.keeps(h:iT S j x tag b f d g w O)(k:Keeps S.Cb O w w2)(hl:WgLive S.ty S.Wg w2):iT S j x tag b f d g w2 O:=by
 cases h with
 | skd e hx h=>exact .skd e (hx.trans (mh k).symm) (h.keeps k)
 | sa1 e h c=>exact .sa1 e (fu h hl) (iq c k)
 | gO e h c=>exact .gO e (fu h hl) (iq c k)
 | ske e h c=>exact .ske e (fu h hl) (iq c k)
 | dr e h c=>exact .dr e (fu h hl) (iq c k)
 | sgo e hx h=>exact .sgo e (hx.trans (mh k).symm) (h.keeps k)
 | kd e h=>exact .kd e (fu h hl)
 | anch e h=>exact .anch e (fu h hl)
 | w1 e h=>exact .w1 e (fu h hl)
 | w2 e h=>exact .w2 e (fu h hl)
 | wr e h=>exact .wr e (fu h hl)
 | w3 e h=>exact .w3 e (fu h hl)
 | blk e h=>exact .blk e fun w₁ r=>h w₁ fun _=>r hl
 | w4 e h=>exact .w4 e (fu h hl)
 | ke e h=>exact .ke e (fu h hl)
 | acq e h=>exact .acq e (fu h hl)
theorem iT.status(hS:S.Ok)(h:iT S j x tag b f d g w O)(hv:S.V0 w):(g.status=.running∧tag≠.blk)∨(g.status=.blocked∧tag=.blk):=by
 cases h with
 | skd e hx h=>
   refine .inl ⟨?_,zs⟩
   cases h with
   | stop h=>exact(h w (Keeps.refl _ O w) hv).choose_spec.1.1
   | step X h0 h1 h2=>exact h0
 | sa1 e h c=>exact .inl ⟨bM (fun _ _ x=>x.1) h,zs⟩
 | gO e h c=>exact .inl ⟨bM (fun _ _ x=>x.elim (fun x=>x.1) (fun x=>x.1)) h,zs⟩
 | ske e h c=>exact .inl ⟨bM (fun _ _ x=>x.1) h,zs⟩
 | @dr r m R g w O e h c=>
   refine .inl ⟨bM (fun g' w' x=>?_) h,zs⟩
   subst x
   have h1:=c w (Keeps.refl _ O w) hv
   cases h1 with
   | stop h=>exact(h w (Keeps.refl _ O w) hv).1
   | step X h0 h1 h2=>exact h0
 | sgo e hx h=>
   refine .inl ⟨?_,zs⟩
   cases h with
   | stop h=>exact(h w (Keeps.refl _ O w) hv).1
   | step X h0 h1 h2=>exact h0
 | kd e h=>exact .inl ⟨bM (fun _ _ x=>x.1) h,zs⟩
 | anch e h=>exact .inl ⟨bM hS.run h,zs⟩
 | w1 e h=>exact .inl ⟨bM (fun _ _ x=>x.1) h,zs⟩
 | w2 e h=>exact .inl ⟨bM (fun _ _ x=>x.1) h,zs⟩
 | wr e h=>exact .inl ⟨bM (fun _ _ x=>x.1) h,zs⟩
 | w3 e h=>exact .inl ⟨bM (fun _ _ x=>x.1) h,zs⟩
 | blk e h=>exact .inr ⟨rfl,rfl⟩
 | w4 e h=>exact .inl ⟨bM (fun _ _ x=>x.1) h,zs⟩
 | ke e h=>exact .inl ⟨bM (fun _ _ x=>x.1) h,zs⟩
 | acq e h=>exact .inl ⟨bM (fun _ _ x=>x.1) h,zs⟩
theorem iT.wokenBy(hS:S.Ok)(h:iT S j x tag b f d g w O)(k:Keeps S.Cb O w w2)(hv:S.V0 w2)(g1 g2:Goroutine):
 ∃tag' f',iT S j x tag' b f' d (woken S.P g1 g2 w2 g) w2 O∧f'≤f+1∧(tag'=tag∨(tag=.blk∧tag'=.w3))∧(mayWake S.P g1=true→g2.status=.running→tag'≠.blk):=by
 have h':=h.keeps k hv.live
 unfold Go.Conc.woken
 split
 ·rcases h'.status hS hv with⟨hs,hne⟩|⟨_,rfl⟩
  ·exact⟨tag,f,by rw[again_running _ (.inl hs)];exact h',zo,.inl rfl,fun _ _=>hne⟩
  ·cases h' with
   | blk e hb=>
     have h3:=hb w2 fun x=>x
     exact⟨.w3,0+1,by rw[again_blocked h3.1 h3.2.1];exact .w3 e (Goes.stop hb),zo,.inr ⟨rfl,rfl⟩,fun _ _=>zs⟩
 ·rename_i hc
  exact⟨tag,f,h',zo,.inl rfl,fun h1 h2=>absurd (by simp[h1,h2]) hc⟩
end
def Ai(w w':World):Prop:=w'.os=w.os∧w'.output=w.output∧w'.tape=w.tape
theorem Ai.env{w w':World}(h:Ai w w'){o:Os}{p:Array (Nat × ByteArray)}{τ:Tape}(e:w.os=o∧w.output=p∧w.tape=τ):w'.os=o∧w'.output=p∧w'.tape=τ:=⟨h.1.trans e.1,h.2.1.trans e.2.1,h.2.2.trans e.2.2⟩
def Site.Sh(S:Site)(b:Nat):Prop:=b=S.Wg∨b=S.Ch
def rY(S:Site)(j:Nat)(pre:Nat→Nat)(w:World):Prop:=
 ∃ (buf:Array Value) (s q:Nat),w.heap[S.Ch]? =some (.chan S.n buf false s q false)∧buf.toList.Perm (((List.range j).filter fun i=>S.bit i && decide (pre i≤1)).map fun(i:Nat)=>int i64 i)
def Ml(S:Site)(t:Trace):Prop:=∀op∈t,op.g≠0→∀x,op.act.touch?=some x→x.kind=.atomic→ShN S.Wg x.loc
theorem Ml.app{S:Site}{t u:Trace}(h:Ml S t)(hu:Ml S u):Ml S (t ++ u):=fun op hop=>(Array.mem_append.1 hop).elim (h op) (hu op)
structure Com(S:Site)(O C:Nat→Nat→Prop)(bx pre:Nat→Nat)(rk:Nat→Rank S.P)(j:Nat)(gs:Array Goroutine)(w:World)(t:Trace)(D:Nat→WD)(d0:Nat):Prop where
 size:gs.size=j+1
 lay:Lay O C S.Sh w
 c0:C 0=S.Cb
 ci:∀i,i<j→C (i+1)=S.C1 (bx i)
 z:∀k b,j<k→¬ O k b∧¬ C k b
 v0:S.V0 w
 box:∀i,i<j→w.heap[bx i]? =some (S.QK i)
 wk:∀i,i<j→∃g,gs[i+1]? =some g∧Cy S i (bx i) (rk (i+1)) (pre i) (D i).stage (D i).fuel (D i).deaf g w (O (i+1))
 ct:CT (In S.Sh) (gX O) (Cw C) t j
 Py:Pm t w
 norel:NoRelease (stA S.Wg) t
 deaf0:Deaf t 0=d0
 deafW:∀i,i<j→Deaf t (i+1)=(D i).deaf
 rel:∀i,i<j→(D i).stage≤6→∃r,RelBy (stA S.Wg) t (i+1) r
 sent:rY S j pre w
 sn:Ml S t
section
variable{S:Site}{O C:Nat→Nat→Prop}{bx pre:Nat→Nat}{rk:Nat→Rank S.P}{j:Nat}{gs gs':Array Goroutine}{w w':World}{t u:Trace}{D:Nat→WD}{d0:Nat}
theorem Com.v1(h:Com S O C bx pre rk j gs w t D d0){i:Nat}(hi:i<j):S.V1 i (bx i) w:=⟨h.v0,h.box i hi⟩
theorem rY.congr{pre':Nat→Nat}(h:rY S j pre w)(hw:w'.heap[S.Ch]? =w.heap[S.Ch]?)(hp:∀i,i<j→(pre' i≤1↔pre i≤1)):rY S j pre' w':=by
 obtain⟨buf,s,q,h1,h2⟩:=h
 refine⟨buf,s,q,hw.trans h1,?_⟩
 have:((List.range j).filter fun i=>S.bit i && decide (pre' i≤1))=(List.range j).filter fun i=>S.bit i && decide (pre i≤1):=by
  refine List.filter_congr fun i hi=>?_
  rw[decide_eq_decide.2 (hp i (List.mem_range.1 hi))]
 rw[this];exact h2
theorem rY.chan(h:rY S j pre w):∃buf s q,w.heap[S.Ch]? =some (.chan S.n buf false s q false):=let ⟨buf,s,q,h1,_⟩:=h;⟨buf,s,q,h1⟩
theorem Com.stepW(hS:S.Ok)(h:Com S O C bx pre rk j gs w t D d0){i:Nat}(hi:i<j){g':Goroutine}{O1:Nat→Prop}{x':Rank S.P}{p' s' m' d':Nat}
 (hsz:gs'.size=j+1)(hg':gs'[i+1]? =some g')(hgs:∀k,k<j→k≠i→∀y,gs[k+1]? =some y→(y.status=.running∨y.status=.finished)→gs'[k+1]? =some y)
 (iY:Lay (qJ O (i+1) O1) C S.Sh w')(hk:∀k,k≠i+1→Keeps (C k) (O k) w w')(bm:∀b,C (i+1) b→w'.heap[b]? =w.heap[b]?)(hl:WgLive S.ty S.Wg w')(FC:Ai w w')
 (iR:rY S j (upd pre i p') w')(hs':Cy S i (bx i) x' p' s' m' d' g' w' O1)
 (hct:CT (In S.Sh) (gX (qJ O (i+1) O1)) (Cw C) (t ++ u) j)(yH:Pm (t ++ u) w')(hu:∀op∈u,op.g=i+1)(hnr:∀op∈u,op.act≠.mark (.release (stA S.Wg)))
 (Di:Ml S u)(hdk:Deaf (t ++ u) (i+1)=d')(hrel:s'≤6→∃r,RelBy (stA S.Wg) (t ++ u) (i+1) r):
 Com S (qJ O (i+1) O1) C bx (upd pre i p') (upd rk (i+1) x') j gs' w' (t ++ u) (upd D i ⟨s',m',d'⟩) d0:=by
 refine⟨hsz,iY,h.c0,h.ci,fun k b hk'=>⟨by rw[dR O O1 zo];exact(h.z k b hk').1,(h.z k b hk').2⟩,⟨hl,fun b o hb=>?_,iR.chan,FC.env h.v0.env⟩,fun k hk'=>?_,fun k hk'=>?_,hct,yH,h.norel.app hnr,by rw[Deaf_other t zo _ hu,h.deaf0],fun k hk'=>?_,fun k hk' hst=>?_,iR,h.sn.app Di⟩
 ·rw[hk 0 zo b (.inr (by rw[h.c0];simp[Site.Cb,hb]))];exact h.v0.tab b o hb
 ·by_cases e:k=i
  ·subst e;rw[bm _ (by rw[h.ci k hi];exact .inr rfl)];exact h.box k hi
  ·rw[hk (k+1) zo _ (.inr (by rw[h.ci k hk'];exact .inr rfl))];exact h.box k hk'
 ·by_cases e:k=i
  ·subst e
   refine⟨g',hg',?_⟩
   rw[upd_same,upd_same,upd_same,bI]
   exact hs'
  ·obtain⟨y,hy,hsy⟩:=h.wk k hk'
   refine⟨y,hgs k hk' e y hy (hsy.status (h.v1 hk')),?_⟩
   rw[upd_ne rk _ zo,upd_ne pre _ e,upd_ne D _ e,dR O O1 zo]
   exact hsy.keeps hS (by rw[← h.ci k hk'];exact hk (k+1) zo) hl
 ·by_cases e:k=i
  ·subst e;rw[upd_same];exact hdk
  ·rw[Deaf_other t zo _ hu,h.deafW k hk',upd_ne D _ e]
 ·by_cases e:k=i
  ·subst e;rw[upd_same] at hst;exact hrel hst
  ·rw[upd_ne D _ e] at hst
   obtain⟨r,hr⟩:=h.rel k hk' hst
   exact⟨r,hr.appOther hu zo⟩
theorem Com.step0(hS:S.Ok)(h:Com S O C bx pre rk j gs w t D d0){O1:Nat→Prop}{x':Rank S.P}{d':Nat}
 (hsz:gs'.size=j+1)(hgs:∀k,k<j→∀y,gs[k+1]? =some y→(y.status=.running∨y.status=.finished)→gs'[k+1]? =some y)
 (iY:Lay (qJ O 0 O1) C S.Sh w')(hk:∀k,k≠0→Keeps (C k) (O k) w w')(bm:∀b,C 0 b→w'.heap[b]? =w.heap[b]?)(hl:WgLive S.ty S.Wg w')(FC:Ai w w')
 (iR:rY S j pre w')(hct:CT (In S.Sh) (gX O) (Cw C) (t ++ u) j)(yH:Pm (t ++ u) w')(hu:∀op∈u,op.g=0)(hnr:∀op∈u,op.act≠.mark (.release (stA S.Wg)))
 (Di:Ml S u)(hdk:Deaf (t ++ u) 0=d'):
 Com S (qJ O 0 O1) C bx pre (upd rk 0 x') j gs' w' (t ++ u) D d':=by
 refine⟨hsz,iY,h.c0,h.ci,fun k b hk'=>⟨by rw[dR O O1 zo];exact(h.z k b hk').1,(h.z k b hk').2⟩,⟨hl,fun b o hb=>?_,iR.chan,FC.env h.v0.env⟩,fun k hk'=>?_,fun k hk'=>?_,CT.congr hct (fun k k1 _=>?_) (fun _ _ _=>rfl),yH,h.norel.app hnr,hdk,fun k hk'=>by rw[Deaf_other t zo _ hu,h.deafW k hk'],fun k hk' hst=>?_,iR,h.sn.app Di⟩
 ·rw[bm b (by rw[h.c0];simp[Site.Cb,hb])];exact h.v0.tab b o hb
 ·rw[hk (k+1) zo _ (.inr (by rw[h.ci k hk'];exact .inr rfl))];exact h.box k hk'
 ·obtain⟨y,hy,hsy⟩:=h.wk k hk'
  refine⟨y,hgs k hk' y hy (hsy.status (h.v1 hk')),?_⟩
  rw[upd_ne rk _ zo,dR O O1 zo]
  exact hsy.keeps hS (by rw[← h.ci k hk'];exact hk (k+1) zo) hl
 ·unfold gX;rw[dR O O1 zo]
 ·obtain⟨r,hr⟩:=h.rel k hk' hst
  exact⟨r,hr.appOther hu zo⟩
end
end
section
open Go.Conc Go.ConcN Go.cu Go.Conc.Lib
open Go.ConcR (KK WgAt stA smA rd wr g_of_ofEvents Payload DC0 again_blocked Bk ofEvent_loc_mark ofEvent_cell)
variable[Inhabited aS]
abbrev uE(S:Site):=Nat × (Nat→Rank S.P) × Nat
def yh(S:Site):uE S→uE S→Prop:=Prod.Lex (· < ·) (Prod.Lex (Dec (kM S.P) (S.n+1)) (· < ·))
theorem cE(S:Site):WellFounded (yh S):=
 (Prod.lex ⟨_,Nat.lt_wfRel.wf⟩ (Prod.lex ⟨_,Z7 (r:=kM S.P) Bp (S.n+1)⟩ ⟨_,Nat.lt_wfRel.wf⟩)).wf
theorem cD{S:Site}{a b:uE S}(h:yh S a b):a.1≤b.1:=by
 cases h with
 | left _ _ h=>exact Nat.le_of_lt h
 | right _ h=>exact Nat.le_refl _
theorem Dz{S:Site}{a b:uE S}(h:a.1<b.1):yh S a b:=by
 obtain⟨a1,a2⟩:=a
 obtain⟨b1,b2⟩:=b
 exact Prod.Lex.left _ _ h
theorem A8{S:Site}{a b c:uE S}(h:yh S a b)(h2:b.1<c.1):yh S a c:=Dz (Nat.lt_of_le_of_lt (cD h) h2)
def mu(S:Site)(j:Nat)(D:Nat→WD)(tag:CTag)(b:Nat)(pre:Nat→Nat)(rk:Nat→Rank S.P)(f0:Nat):uE S:=
 (2 * phi S.n (Vc j D) tag+b+Ssum j D+sumTo j pre,rk,f0+2 * Fsum j D)
def Inv(S:Site)(μ:uE S)(m:Machine)(t:Trace):Prop:=
 ∃ (gs:Array Goroutine) (w:World) (sl:Option (Nat × Nat)) (j:Nat) (D:Nat→WD) (tag:CTag) (b f0 d0:Nat) (a:Goroutine) (st sm:Int) (O C:Nat→Nat→Prop) (bx pre:Nat→Nat) (rk:Nat→Rank S.P),
   m=crowd gs w sl∧gs[0]? =some a∧iT S j (rk 0) tag b f0 d0 a w (O 0)∧Com S O C bx pre rk j gs w t D d0∧WgAt S.ty S.Wg w st sm∧ConcN.Mode j D tag st sm∧μ=mu S j D tag b pre rk f0
theorem tC{α:Type}(f:Nat→α)(i:Nat):upd f i (f i)=f:=by
 funext k
 by_cases e:k=i
 ·subst e;rw[upd_same]
 ·rw[upd_ne f _ e]
theorem jU(O:Nat→Nat→Prop)(i:Nat):qJ O i (O i)=O:=by
 funext k
 by_cases e:k=i
 ·subst e;rw[bI]
 ·rw[dR O _ e]
section
variable{S:Site}{O C:Nat→Nat→Prop}{bx pre:Nat→Nat}{rk:Nat→Rank S.P}{j:Nat}{gs:Array Goroutine}{w w':World}{sl:Option (Nat × Nat)}{t:Trace}{D:Nat→WD}{tag:CTag}{b f0 d0:Nat}{a:Goroutine}{st sm:Int}
theorem iT.bound{x:Rank S.P}{O0:Nat→Prop}(h:iT S j x tag b f0 d0 a w O0):j+pend tag≤S.n:=by
 cases h <;> simp only[pend] <;> (try simp) <;> omega
theorem He(hS:S.Ok)(ha:gs[0]? =some a)(hm:iT S j (rk 0) tag b f0 d0 a w (O 0))(hc:Com S O C bx pre rk j gs w t D d0)
 {i:Nat}(hi:i<j){g g':Goroutine}{O1:Nat→Prop}{es:Array Event}{x':Rank S.P}{p' s' m' d':Nat}{st' sm':Int}(hg:gs[i+1]? =some g)(hgo:stepG S.P false g w=.go g' w' es)
 (iY:Lay (qJ O (i+1) O1) C S.Sh w')(hk:∀k,k≠i+1→Keeps (C k) (O k) w w')(bm:∀q,C (i+1) q→w'.heap[q]? =w.heap[q]?)(FC:Ai w w')
 (iR:rY S j (upd pre i p') w')(hs':Cy S i (bx i) x' p' s' m' d' g' w' O1)
 (hct:CT (In S.Sh) (gX (qJ O (i+1) O1)) (Cw C) (t ++ MemOp.ofEvents (i+1) g.frame.fn g.frame.place es) j)(yH:Pm (t ++ MemOp.ofEvents (i+1) g.frame.fn g.frame.place es) w')
 (Di:Ml S (MemOp.ofEvents (i+1) g.frame.fn g.frame.place es))(hnr:∀e∈es,e.loc≠.mark (.release (stA S.Wg)))(hdk:deafBehind (D i).deaf es=d')(hrel:s'≤6→∃r,RelBy (stA S.Wg) (t ++ MemOp.ofEvents (i+1) g.frame.fn g.frame.place es) (i+1) r)
 (hwg:WgAt S.ty S.Wg w' st' sm')
 (hmode:∀tag',(tag'=tag∨(tag=.blk∧tag'=.w3))→(mayWake S.P g=true→g'.status=.running→tag'≠.blk)→ConcN.Mode j (upd D i ⟨s',m',d'⟩) tag' st' sm')
 (hlt:(s'+p'<(D i).stage+pre i∧cnt ⟨s',m',d'⟩≤cnt (D i))∨(s'=(D i).stage∧p'=pre i∧kM S.P x' (rk (i+1)))∨(s'=(D i).stage∧p'=pre i∧x'=rk (i+1)∧m'<(D i).fuel)):
 ∃m₁ ops μ',runT S.P (crowd gs w sl) (i+1)=(.next m₁,ops)∧yh S μ' (mu S j D tag b pre rk f0)∧Inv S μ' m₁ (t ++ ops):=by
 have hl:WgLive S.ty S.Wg w':=⟨_,_,hwg⟩
 have hv0:S.V0 w':=⟨hl,fun q o hb=>by rw[hk 0 zo q (.inr (by rw[hc.c0];simp[Site.Cb,hb]))];exact hc.v0.tab q o hb,iR.chan,FC.env hc.v0.env⟩
 obtain⟨tag',f',hcs',hf',htag,hwk⟩:=hm.wokenBy hS (by rw[← hc.c0];exact hk 0 zo) hv0 g g'
 have hrun:=runT_crowd_go (P:=S.P) (sl:=sl) (i:=i+1) hg (by simpa using hgo)
 have hjn:j≤S.n:=by have:=hm.bound;omega
 have hcom:=hc.stepW (gs':=(gs.map (woken S.P g g' w')).setIfInBounds (i+1) g') (u:=MemOp.ofEvents (i+1) g.frame.fn g.frame.place es) hS hi (by simp[hc.size]) (get_map_set_same _ _ _ (by rw[hc.size];omega))
  (fun k hk' e y hy hst=>by
   rw[get_map_set _ _ _ _ zo,hy,Option.map_some]
   congr 1
   unfold Go.Conc.woken
   split
   ·exact again_running _ hst
   ·rfl) iY hk bm hl FC iR hs' hct yH g_of_ofEvents (norel_of hnr) Di (by rw[Deaf_own,hc.deafW i hi];exact hdk) hrel
 have e1:=sumTo_upd D (⟨s',m',d'⟩:WD) cnt hi
 have e2:=sumTo_upd D (⟨s',m',d'⟩:WD) WD.stage hi
 have e3:=sumTo_upd D (⟨s',m',d'⟩:WD) WD.fuel hi
 have e4:=sumTo_upd pre p' id hi
 refine⟨_,_,mu S j (upd D i ⟨s',m',d'⟩) tag' b (upd pre i p') (upd rk (i+1) x') f',hrun,?_,_,w',sl,j,upd D i ⟨s',m',d'⟩,tag',b,f',d0,woken S.P g g' w' a,st',sm',_,C,bx,_,_,rfl,
  by rw[get_map_set _ _ _ _ zo,ha];rfl,by rw[upd_ne rk _ zo,dR O O1 zo];exact hcs',hcom,hwg,hmode tag' htag hwk,rfl⟩
 unfold mu
 rw[phi_retag S.n _ htag]
 simp only[Vc,Ssum,Fsum,id] at *
 have hph:(sumTo j fun q=>cnt (upd D i ⟨s',m',d'⟩ q))≤(sumTo j fun q=>cnt (D q))→phi S.n (sumTo j fun q=>cnt (upd D i ⟨s',m',d'⟩ q)) tag≤phi S.n (sumTo j fun q=>cnt (D q)) tag:=fun h=>phi_mono S.n h tag
 have same:s'=(D i).stage→p'=pre i→2 * phi S.n (sumTo j fun q=>cnt (upd D i ⟨s',m',d'⟩ q)) tag+b+(sumTo j fun q=>(upd D i ⟨s',m',d'⟩ q).stage)+sumTo j (fun q=>upd pre i p' q)=2 * phi S.n (sumTo j fun q=>cnt (D q)) tag+b+(sumTo j fun q=>(D q).stage)+sumTo j (fun q=>pre q):=fun h1 h2=>by
  have ec:cnt (⟨s',m',d'⟩:WD)=cnt (D i):=by simp only[cnt,h1]
  have ev:(sumTo j fun q=>cnt (upd D i ⟨s',m',d'⟩ q))=sumTo j fun q=>cnt (D q):=zo
  rw[ev];omega
 rcases hlt with⟨h1,h2⟩|⟨h1,h2,h3⟩|⟨h1,h2,h3,h4⟩
 ·refine Prod.Lex.left _ _ ?_
  have:=hph zo
  show 2 * _+b+_+sumTo j (fun q=>upd pre i p' q)<2 * _+b+_+sumTo j (fun q=>pre q)
  omega
 ·have:=same h1 h2
  show yh S (2 * _+b+_+sumTo j (fun q=>upd pre i p' q),_) (2 * _+b+_+sumTo j (fun q=>pre q),_)
  rw[this]
  exact Prod.Lex.right _ (Prod.Lex.left _ _ ⟨i+1,zo,by rw[upd_same];exact h3,fun k hk'=>upd_ne rk _ hk'⟩)
 ·have:=same h1 h2
  show yh S (2 * _+b+_+sumTo j (fun q=>upd pre i p' q),_) (2 * _+b+_+sumTo j (fun q=>pre q),_)
  rw[this,h3,tC]
  refine Prod.Lex.right _ (Prod.Lex.right _ ?_)
  omega
end
end
section
open Go.Conc Go.ConcN Go.cu Go.Conc.Lib
open Go.ConcR (KK WgAt stA smA rd wr g_of_ofEvents Payload DC0 again_blocked Bk ofEvent_loc_mark ofEvent_cell bk_of_mute)
variable[Inhabited aS]
section
variable{S:Site}{O C:Nat→Nat→Prop}{bx pre:Nat→Nat}{rk:Nat→Rank S.P}{j:Nat}{gs:Array Goroutine}{w w':World}{sl:Option (Nat × Nat)}{t:Trace}{D:Nat→WD}{tag:CTag}{b f0 d0:Nat}{a:Goroutine}{st sm:Int}
theorem jv{O1 C0:Nat→Prop}{e:Event}(h:PG O1 C0 e):e.loc≠.mark .disable∧e.loc≠.mark .enable∧∀q,e.loc≠.mark (.release q):=by
 rcases h with rfl|⟨_,⟨q,h,_⟩|⟨q,h,_⟩⟩
 ·exact⟨zs,zs,zs⟩
 ·exact⟨by simp[h],by simp[h],by simp[h]⟩
 ·exact⟨by simp[h],by simp[h],by simp[h]⟩
theorem mem_ofEvents{k:Nat}{fn:FuncId}{pos:String}{es:Array Event}{op:MemOp}(h:op∈MemOp.ofEvents k fn pos es):∃e∈es,op={g:=k,fn,pos,act:=.ofEvent e }:=mem_seen h
theorem Mh{k:Nat}{O1:Nat→Prop}{es:Array Event}(hL:Lay O C S.Sh w)(d:Did (C k) (O k) O1 w w' es.toList)(hT:Pm t w)(fn:FuncId)(pos:String):Pm (t ++ MemOp.ofEvents k fn pos es) w':=by
 refine oC hT d.size fun op hop x hx q hq=>?_
 obtain⟨e,he,rfl⟩:=mem_ofEvents hop
 have hL':=hL.did d
 rcases lS (d.evs e (by simpa using he)) hx hq with h|h
 ·exact hL'.LC k q (by rw[bI];exact h)
 ·exact hL'.Nq k q h
theorem KP{k:Nat}{O1 C0:Nat→Prop}{es:Array Event}(h:∀e∈es,PG O1 C0 e)(fn:FuncId)(pos:String):Ml S (MemOp.ofEvents k fn pos es):=fun op hop _ x hx hk=>by
 obtain⟨e,he,rfl⟩:=mem_ofEvents hop
 rcases h e he with rfl|⟨hs,h⟩
 ·simp[MemAct.ofEvent,MemAct.touch?] at hx
 ·obtain⟨loc,wr,sy⟩:=e
  simp only at hs h
  subst hs
  rcases h with⟨q,rfl,_⟩|⟨q,rfl,_⟩ <;> cases wr <;> simp[MemAct.ofEvent,MemAct.touch?] at hx <;> subst hx <;> cases hk
theorem QD{k:Nat}{es:Array Event}(h:∀e∈es,∀x,(MemAct.ofEvent e).touch?=some x→ShN S.Wg x.loc)(fn:FuncId)(pos:String):Ml S (MemOp.ofEvents k fn pos es):=fun op hop _ x hx _=>by
 obtain⟨e,he,rfl⟩:=mem_ofEvents hop
 exact h e he x hx
theorem qP{u:Trace}(h:∀op∈u,op.act.touch?=none):Ml S u:=fun op hop _ x hx=>by rw[h op hop] at hx;cases hx
theorem SI(hS:S.Ok)(ha:gs[0]? =some a)(hm:iT S j (rk 0) tag b f0 d0 a w (O 0))(hc:Com S O C bx pre rk j gs w t D d0)(hwg:WgAt S.ty S.Wg w st sm)(hmode:ConcN.Mode j D tag st sm)
 {i:Nat}(hi:i<j){g g':Goroutine}{O1:Nat→Prop}{es:Array Event}{x':Rank S.P}(hg:gs[i+1]? =some g)(hgo:stepG S.P false g w=.go g' w' es)(d:Did (C (i+1)) (O (i+1)) O1 w w' es.toList)
 (h7:(D i).stage=7)(hd:(D i).deaf=0)(hs':Cy S i (bx i) x' (pre i) 7 0 0 g' w' O1)(hr:kM S.P x' (rk (i+1))):
 ∃m₁ ops μ',runT S.P (crowd gs w sl) (i+1)=(.next m₁,ops)∧yh S μ' (mu S j D tag b pre rk f0)∧Inv S μ' m₁ (t ++ ops):=by
 have hev:∀e∈es,PG O1 (C (i+1)) e:=fun e he=>d.evs e (by simpa using he)
 have hbW:w'.heap[S.Wg]? =w.heap[S.Wg]?:=hc.lay.shared d (.inl rfl)
 refine He hS ha hm hc hi hg hgo (hc.lay.did d) (fun k hk=>hc.lay.keeps d hk) (fun q hq=>hc.lay.common d hq) ⟨d.os,d.output,d.tape⟩ ?_ hs' (ZY hc.lay d hc.Py hc.ct zo zo _ _) (Mh hc.lay d hc.Py _ _) (KP hev _ _)
  (fun e he=>(jv (hev e he)).2.2 _) (by rw[hd];exact deafBehind_idle (fun e he=>⟨(jv (hev e he)).1,(jv (hev e he)).2.1⟩) 0) (fun h=>absurd h zo) (st':=st) (sm':=sm) (by unfold WgAt at *;rw[hbW];exact hwg)
  (fun tag' ht _=>ConcN.Mode.retag (by have:=hmode.same (i:=i) 0 0;rwa[h7] at this) ht) (.inr (.inl ⟨h7.symm,rfl,hr⟩))
 rw[tC]
 exact hc.sent.congr (hc.lay.shared d (.inr rfl)) fun _ _=>Iff.rfl
theorem IJ(hS:S.Ok)(ha:gs[0]? =some a)(hm:iT S j (rk 0) tag b f0 d0 a w (O 0))(hc:Com S O C bx pre rk j gs w t D d0)
 {i:Nat}(hi:i<j){g g':Goroutine}{es:Array Event}{s' m' d':Nat}{st' sm':Int}(hg:gs[i+1]? =some g)(hgo:stepG S.P false g w=.go g' w' es)(hAs:Aside S.Wg w w')(hwg:WgAt S.ty S.Wg w' st' sm')
 (hev:∀e∈es,∀x,(MemAct.ofEvent e).touch?=some x→ShN S.Wg x.loc∧x.kind≠.plain∧x.kind≠.said)(hnr:∀e∈es,e.loc≠.mark (.release (stA S.Wg)))
 (hs':Cy S i (bx i) (rk (i+1)) (pre i) s' m' d' g' w' (O (i+1)))(hdk:deafBehind (D i).deaf es=d')
 (hrel:s'≤6→∃r,RelBy (stA S.Wg) (t ++ MemOp.ofEvents (i+1) g.frame.fn g.frame.place es) (i+1) r)
 (hmode:∀tag',(tag'=tag∨(tag=.blk∧tag'=.w3))→(mayWake S.P g=true→g'.status=.running→tag'≠.blk)→ConcN.Mode j (upd D i ⟨s',m',d'⟩) tag' st' sm')
 (hlt:(s'<(D i).stage∧cnt ⟨s',m',d'⟩≤cnt (D i))∨(s'=(D i).stage∧m'<(D i).fuel)):
 ∃m₁ ops μ',runT S.P (crowd gs w sl) (i+1)=(.next m₁,ops)∧yh S μ' (mu S j D tag b pre rk f0)∧Inv S μ' m₁ (t ++ ops):=by
 have hkp:∀k,Keeps (C k) (O k) w w':=fun k q hq=>hAs.block q (by
  rcases hq with h|h
  ·exact fun e=>hc.lay.nu k q h (.inl e)
  ·exact fun e=>hc.lay.cS k q h (.inl e))
 have iY:Lay O C S.Sh w':=hc.lay.grow (Nat.le_of_eq hAs.size.symm)
 have hok:∀op∈MemOp.ofEvents (i+1) g.frame.fn g.frame.place es,OkW (In S.Sh) (gX O) (Cw C) (i+1) op:=fun op hop=>by
  obtain⟨e,he,rfl⟩:=mem_ofEvents hop
  refine⟨rfl,fun x hx=>.inl ?_⟩
  obtain⟨⟨q,h1,h2⟩,h3⟩:=hev e he x hx
  exact⟨by rw[h1];exact .inl h2,h3⟩
 refine He hS ha hm hc hi hg hgo (O1:=O (i+1)) (x':=rk (i+1)) (p':=pre i) (by rw[jU];exact iY) (fun k _=>hkp k) (fun q hq=>hkp (i+1) q (.inr hq)) ⟨hAs.os,hAs.output,hAs.tape⟩ ?_ hs' (by rw[jU];exact hc.ct.appW hc.lay.apart zo zo hok) ?_ (QD (fun e he x hx=>(hev e he x hx).1) _ _) hnr hdk hrel hwg hmode ?_
 ·rw[tC];exact hc.sent.congr (hAs.block _ (Ne.symm hS.wc)) fun _ _=>Iff.rfl
 ·refine oC hc.Py (Nat.le_of_eq hAs.size.symm) fun op hop x hx q hq=>?_
  obtain⟨e,he,rfl⟩:=mem_ofEvents hop
  obtain⟨⟨ad,h1,h2⟩,_⟩:=hev e he x hx
  rw[h1] at hq
  simp only[In] at hq
  have:=iY.LD S.Wg (.inl rfl)
  omega
 ·rcases hlt with⟨h1,h2⟩|⟨h1,h2⟩
  ·exact .inl ⟨zo,h2⟩
  ·exact .inr (.inr ⟨h1,rfl,rfl,h2⟩)
theorem vV{es:Array Event}(h:∀e∈es,Bk S.Wg e):∀e∈es,∀x,(MemAct.ofEvent e).touch?=some x→ShN S.Wg x.loc∧x.kind≠.plain∧x.kind≠.said:=fun e he x hx=>by
 rcases h e he with h1|h1|⟨q,wr,rfl,hq⟩
 ·rw[ofEvent_loc_mark h1] at hx;cases hx
 ·rw[ofEvent_loc_mark h1] at hx;cases hx
 ·simp only[ofEvent_cell,MemAct.touch?,Option.some.injEq] at hx
  subst hx
  exact⟨⟨q,rfl,hq⟩,zs,zs⟩
theorem Nf{es:Array Event}(h:∀e∈es,EvW S.Wg F0 F0 1 e):∀e∈es,∀x,(MemAct.ofEvent e).touch?=some x→ShN S.Wg x.loc∧x.kind≠.plain∧x.kind≠.said:=fun e he x hx=>by
 rcases((h e he).1 0 "").2 x hx with h|h|⟨h,_⟩
 ·exact h
 ·exact h.elim
 ·exact h.elim
theorem CP(hab:S.bA≠S.bB)(h1:@AsideCell S.pA S.bA 1 0 w w')(h2:@AsideCell S.pB S.bB 1 0 w w'):Aside S.Wg w w':=by
 obtain⟨a1,a2,a3,a4,a5,_,_⟩:=h1
 obtain⟨_,_,_,_,c5,_,_⟩:=h2
 exact⟨a1,a2,a3,a4,fun k _=>by
  by_cases e:k=S.bA
  ·subst e;exact c5 _ hab
  ·exact a5 k e⟩
end
end
end Go.aO
