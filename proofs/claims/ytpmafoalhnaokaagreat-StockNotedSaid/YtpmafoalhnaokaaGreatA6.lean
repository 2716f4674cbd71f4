/- Str Par Par2 Par3 Par4 Par5 Par6 Par7 Par8 Par9 Par10 Par11b Par12 -/
import Derived.Test.YtpmafoalhnaokaaGreatA0
import Derived.Calls
import Derived.Laws.Sem
set_option maxRecDepth 100000
set_option maxHeartbeats 16000000
set_option linter.unusedVariables false
set_option linter.unusedSectionVars false
namespace Go
def Gd(l:List Nat):String:=String.ofList (l.map Char.ofNat)
def sQ1:String:=Gd [108,111,97,100,58,32,110,111,32,115,117,99,104,32,99,101,108,108]
def sQ2:String:=Gd [115,116,111,114,101,58,32,110,111,32,115,117,99,104,32,99,101,108,108]
def sQ3:String:=Gd [117,110,119,105,110,100,58,32,116,104,101,32,102,114,97,109,101,32,105,115,32,114,117,110,110,105,110,103]
def CE:String:=Gd [101,120,105,116,44,32,103,111,116,111,58,32,110,111,32,115,117,99,104,32,98,108,111,99,107,32,111,114,32,108,97,98,101,108]
def fb:String:=Gd [114,97,110,103,101,32,111,118,101,114,32,97,32,102,117,110,99,116,105,111,110,58,32,110,111,32,115,117,99,104,32,108,111,111,112]
def rv:String:=Gd [98,101,103,105,110,82,111,117,110,100,58,32,110,111,32,114,111,117,110,100]
def sQ7:String:=Gd [114,101,116,117,114,110,58,32,116,104,101,32,114,101,115,117,108,116,32,118,97,114,105,97,98,108,101,115,32,99,97,110,110,111,116,32,98,101,32,114,101,97,100]
def sQ8:String:=Gd [78,101,120,116,58,32,110,111,32,115,117,99,104,32,99,97,110,100,105,100,97,116,101]
def sQ9:String:=Gd [98,117,105,108,100,83,108,105,99,101,58,32,97,32,112,97,114,116,32,111,102,32,116,104,101,32,119,114,111,110,103,32,115,105,122,101]
def Cd:String:=Gd [103,114,111,119,115,108,105,99,101,58,32,108,101,110,32,111,117,116,32,111,102,32,114,97,110,103,101]
def Cf:String:=Gd [97,112,112,101,110,100,58,32,97,32,115,108,105,99,101,32,111,114,32,97,32,115,116,114,105,110,103,32,119,104,111,115,101,32,98,121,116,101,115,32,110,111,32,109,101,109,111,114,121,32,98,101,97,114,115]
def X':String:=Gd [97,110,111,116,104,101,114,32,101,110,100,32,111,102,32,97,110,32,105,116,101,114,97,116,111,114,39,115,32,99,97,108,108]
def Ys:String:=Gd [99,111,110,100,58,32,98,111,111,108,32,101,120,112,101,99,116,101,100]
def Zi:String:=Gd [97,32,118,97,108,117,101,32,111,102,32,109,111,114,101,32,116,104,97,110,32,50,94,50,50,32,99,101,108,108,115]
def YY:String:=Gd [111,112,47,105,110,100,101,120,65,100,100,114,46,97,110,32,105,110,100,101,120,32,111,117,116,32,111,102,32,114,97,110,103,101,32,97,116,32,97,110,32,97,114,114,97,121,32,111,102,32,108,101,110,103,116,104,32,48,32,111,114,32,49,32,40,108,101,100,103,101,114,32,54,49,54,41]
def Cp:String:=Gd [98,105,110,111,112,47,101,113,108,58,32,116,119,111,32,110,105,108,32,118,97,108,117,101,115,32,111,102,32,97,110,32,105,110,116,101,114,102,97,99,101,32,116,121,112,101,32,119,105,116,104,32,109,101,116,104,111,100,115,44,32,110,101,105,116,104,101,114,32,111,102,32,116,104,101,109,32,116,104,101,32,108,105,116,101,114,97,108,32,110,105,108]
def Fx:String:=Gd [110,101,119,115,46,103,111,58,52,56]
def Cs:String:=Gd [108,105,115,116,115,46,103,111,58,55,50]
end Go
namespace Go.cu
section
abbrev Ren:=Nat→Option Nat
def Le(ρ ρ':Ren):Prop:=∀b b',ρ b=some b'→ρ' b=some b'
theorem Le.refl(ρ:Ren):Le ρ ρ:=fun _ _ h=>h
theorem Le.trans{a b c:Ren}(h:Le a b)(k:Le b c):Le a c:=fun _ _ e=>k _ _ (h _ _ e)
def dL(ρ:Ren):Prop:=∀a b c,ρ a=some c→ρ b=some c→a=b
def Ext(ρ ρ':Ren):Prop:=Le ρ ρ'∧dL ρ'
theorem Ext.refl{ρ:Ren}(h:dL ρ):Ext ρ ρ:=⟨.refl ρ,h⟩
theorem Ext.trans{a b c:Ren}(h:Ext a b)(k:Ext b c):Ext a c:=⟨h.1.trans k.1,k.2⟩
theorem Ext.of{a b c:Ren}(h:Le a b)(k:Ext b c):Ext a c:=⟨h.trans k.1,k.2⟩
def AR(ρ:Ren)(a a':Addr):Prop:=ρ a.block=some a'.block∧a'.off=a.off∧a'.spot=a.spot
theorem AR.mono{ρ ρ':Ren}(l:Le ρ ρ'){a a':Addr}(h:AR ρ a a'):AR ρ' a a':=⟨l _ _ h.1,h.2⟩
inductive VR (ρ:Ren):Value→Value→Prop
 | bool (b:Bool):VR ρ (.bool b) (.bool b)
 | int (k:IntKind) (n:Int):VR ρ (.int k n) (.int k n)
 | float (k:FloatKind) (n:Nat):VR ρ (.float k n) (.float k n)
 | complex (k:FloatKind) (m n:Nat):VR ρ (.complex k m n) (.complex k m n)
 | string (s:ByteArray):VR ρ (.string s) (.string s)
 | yL:VR ρ (.pointer none) (.pointer none)
 | ptr {a a':Addr}:AR ρ a a'→VR ρ (.pointer (some a)) (.pointer (some a'))
 | yU (l c:Nat):VR ρ (.slice none l c) (.slice none l c)
 | sl {a a':Addr} (l c:Nat):AR ρ a a'→VR ρ (.slice (some a) l c) (.slice (some a') l c)
 | YO:VR ρ (.map none) (.map none)
 | map {r r':Nat}:ρ r=some r'→VR ρ (.map (some r)) (.map (some r'))
 | Yb:VR ρ (.chan none) (.chan none)
 | chan {r r':Nat}:ρ r=some r'→VR ρ (.chan (some r)) (.chan (some r'))
 | func (g:FuncId) {x x' y y':Array Value}:x.size=x'.size→(∀ (i:Nat) (h:i<x.size) (h':i<x'.size),VR ρ x[i] x'[i])→y.size=y'.size→(∀ (i:Nat) (h:i<y.size) (h':i<y'.size),VR ρ y[i] y'[i])→
  VR ρ (.func (.func g) x y) (.func (.func g) x' y')
 | yield {l l':Nat}:ρ l=some l'→VR ρ (.func (.yield l) #[] #[]) (.func (.yield l') #[] #[])
 | nilFunc:VR ρ .nilFunc .nilFunc
 | iface (t:TypeId) {v v':Value}:VR ρ v v'→VR ρ (.iface t v) (.iface t v')
 | nilIface:VR ρ .nilIface .nilIface
 | agg {x x':Array Value}:x.size=x'.size→(∀ (i:Nat) (h:i<x.size) (h':i<x'.size),VR ρ x[i] x'[i])→VR ρ (.agg x) (.agg x')
 | tuple {x x':Array Value}:x.size=x'.size→(∀ (i:Nat) (h:i<x.size) (h':i<x'.size),VR ρ x[i] x'[i])→VR ρ (.tuple x) (.tuple x')
def dX(ρ:Ren)(x x':Array Value):Prop:=x.size=x'.size∧∀ (i:Nat) (h:i<x.size) (h':i<x'.size),VR ρ x[i] x'[i]
theorem VR.mono{ρ ρ':Ren}(l:Le ρ ρ'){v v':Value}(h:VR ρ v v'):VR ρ' v v':=by
 induction h with
 | bool b=>exact .bool b
 | int k n=>exact .int k n
 | float k n=>exact .float k n
 | complex k m n=>exact .complex k m n
 | string s=>exact .string s
 | yL=>exact .yL
 | ptr h=>exact .ptr (h.mono l)
 | yU a c=>exact .yU a c
 | sl a c h=>exact .sl a c (h.mono l)
 | YO=>exact .YO
 | map h=>exact .map (l _ _ h)
 | Yb=>exact .Yb
 | chan h=>exact .chan (l _ _ h)
 | func g e1 _ e2 _ ih1 ih2=>exact .func g e1 ih1 e2 ih2
 | yield h=>exact .yield (l _ _ h)
 | nilFunc=>exact .nilFunc
 | iface t _ ih=>exact .iface t ih
 | nilIface=>exact .nilIface
 | agg e _ ih=>exact .agg e ih
 | tuple e _ ih=>exact .tuple e ih
theorem dX.mono{ρ ρ':Ren}(l:Le ρ ρ'){x x':Array Value}(h:dX ρ x x'):dX ρ' x x':=⟨h.1,fun i a b=>(h.2 i a b).mono l⟩
theorem dX.get?{ρ:Ren}{x x':Array Value}(h:dX ρ x x')(i:Nat):(x[i]? =none∧x'[i]? =none)∨∃v v',x[i]? =some v∧x'[i]? =some v'∧VR ρ v v':=by
 rcases Nat.lt_or_ge i x.size with hi|hi
 ·have hi':i<x'.size:=h.1 ▸ hi
  exact .inr ⟨x[i],x'[i],by simp[hi],by simp[hi'],h.2 i hi hi'⟩
 ·have hi':x'.size≤i:=h.1 ▸ hi
  exact .inl ⟨by simp[hi],by simp[hi']⟩
theorem VR.undef(ρ:Ren):VR ρ undef undef:=.tuple rfl (fun i h=>by simp at h)
theorem dX.getD{ρ:Ren}{x x':Array Value}(h:dX ρ x x')(i:Nat):VR ρ (x.getD i undef) (x'.getD i undef):=by
 rcases h.get? i with⟨a,b⟩|⟨v,v',a,b,c⟩
 ·simp only[Array.getD_eq_getD_getElem?,a,b,Option.getD_none];exact .undef ρ
 ·simp only[Array.getD_eq_getD_getElem?,a,b,Option.getD_some];exact c
theorem dX.nil(ρ:Ren):dX ρ #[] #[]:=⟨rfl,fun i h=>by simp at h⟩
theorem dX.push{ρ:Ren}{x x':Array Value}{v v':Value}(h:dX ρ x x')(hv:VR ρ v v'):dX ρ (x.push v) (x'.push v'):=by
 refine⟨by simp[h.1],fun i a b=>?_⟩
 by_cases hi:i<x.size
 ·have hi':i<x'.size:=h.1 ▸ hi
  rw[Array.getElem_push_lt hi,Array.getElem_push_lt hi'];exact h.2 i hi hi'
 ·have e:i=x.size:=by simp at a;omega
  subst e
  have:x.size=x'.size:=h.1
  simp only[Array.getElem_push_eq]
  have e2:(x'.push v')[x.size]=v':=by simp[this]
  rw[e2];exact hv
theorem dX.set{ρ:Ren}{x x':Array Value}{v v':Value}(h:dX ρ x x')(i:Nat)(hv:VR ρ v v'):dX ρ (x.setIfInBounds i v) (x'.setIfInBounds i v'):=by
 refine⟨by simp[h.1],fun j a b=>?_⟩
 have hj:j<x.size:=by simpa using a
 have hj':j<x'.size:=by simpa using b
 by_cases e:i=j
 ·subst e;simp;exact hv
 ·rw[Array.getElem_setIfInBounds_ne hj e,Array.getElem_setIfInBounds_ne hj' e];exact h.2 j hj hj'
theorem dX.append{ρ:Ren}{x x' y y':Array Value}(h:dX ρ x x')(k:dX ρ y y'):dX ρ (x ++ y) (x' ++ y'):=by
 refine⟨by simp[h.1,k.1],fun i a b=>?_⟩
 have e:=h.1
 by_cases hi:i<x.size
 ·rw[Array.getElem_append_left hi,Array.getElem_append_left zo];exact h.2 i hi zo
 ·rw[Array.getElem_append_right zo,Array.getElem_append_right zo]
  have:=k.2 (i - x.size) (by simp at a;omega) (by simp at b;omega)
  simpa only[e] using this
theorem dX.extract{ρ:Ren}{x x':Array Value}(h:dX ρ x x')(a b:Nat):dX ρ (x.extract a b) (x'.extract a b):=by
 refine⟨by simp[h.1],fun i p q=>?_⟩
 rw[Array.getElem_extract,Array.getElem_extract]
 exact h.2 _ _ _
theorem VR.cells{ρ:Ren}{v v':Value}(h:VR ρ v v'):dX ρ v.cells v'.cells:=by
 have one:∀ {v v':Value},VR ρ v v'→dX ρ #[v] #[v']:=fun hv=>⟨rfl,fun i a b=>by
  have:i=0:=by simp at a;omega
  subst this;exact hv⟩
 cases h with
 | agg e h=>exact⟨e,h⟩
 | _=>first|exact one (by constructor <;> assumption)|exact one (by constructor)
structure Ea(ρ:Ren)(e e':MapEntry):Prop where
 key:VR ρ e.key e'.key
 val:VR ρ e.val e'.val
 born:e'.born=e.born
def rP(ρ:Ren)(x x':Array MapEntry):Prop:=x.size=x'.size∧∀ (i:Nat) (h:i<x.size) (h':i<x'.size),Ea ρ x[i] x'[i]
theorem Ea.mono{ρ ρ':Ren}(l:Le ρ ρ'){e e':MapEntry}(h:Ea ρ e e'):Ea ρ' e e':=⟨h.key.mono l,h.val.mono l,h.born⟩
theorem rP.mono{ρ ρ':Ren}(l:Le ρ ρ'){x x':Array MapEntry}(h:rP ρ x x'):rP ρ' x x':=⟨h.1,fun i a b=>(h.2 i a b).mono l⟩
structure aV where
 jw:FuncId→Code→Prop
variable[Inhabited aV]
def jw(f:FuncId)(c:Code):Prop:=(default:aV).jw f c
structure Te(r:Loop):Prop where
 assign:jw r.fn r.assign
 body:jw r.fn r.body
 pending:∀j,r.pending=some j→jw r.fn j
structure uY(ρ:Ren)(r r':Loop):Prop where
 eq:r'={r with tmps:=r'.tmps,defers:=r'.defers }
 tmps:dX ρ r.tmps r'.tmps
 defers:ρ r.defers=some r'.defers
 ok:Te r
theorem uY.mono{ρ ρ':Ren}(l:Le ρ ρ'){r r':Loop}(h:uY ρ r r'):uY ρ' r r':=⟨h.eq,h.tmps.mono l,l _ _ h.defers,h.ok⟩
inductive OR (ρ:Ren):Obj→Obj→Prop
 | cells {c c':Array Value} (e:TypeId) {f f':Nat × Nat}:dX ρ c c'→(∀o,f'.1≤o→o<f'.2→f.1≤o∧o<f.2)→OR ρ (.cells c e f) (.cells c' e f')
 | map {x x':Array MapEntry} (k:Nat):rP ρ x x'→OR ρ (.map x k) (.map x' k)
 | number {a a':Addr} (l:Bool):AR ρ a a'→OR ρ (.number a l) (.number a' l)
 | loop {r r':Loop}:uY ρ r r'→OR ρ (.loop r) (.loop r')
 | defs {d:Option (List Deferred)}:(d=none∨d=some [])→OR ρ (.deferred d) (.deferred d)
theorem OR.mono{ρ ρ':Ren}(l:Le ρ ρ'){o o':Obj}(h:OR ρ o o'):OR ρ' o o':=by
 cases h with
 | cells e h f=>exact .cells e (h.mono l) f
 | map k h=>exact .map k (h.mono l)
 | number b h=>exact .number b (h.mono l)
 | loop h=>exact .loop (h.mono l)
 | defs h=>exact .defs h
structure WR(ρ:Ren)(w w':World):Prop where
 obj:∀b b',ρ b=some b'→∃o o',w.heap[b]? =some o∧w'.heap[b']? =some o'∧OR ρ o o'
 inj:dL ρ
def kK(w w':World):Prop:=∀k q,w.tape (w.drawn+k) q=w'.tape (w'.drawn+k) q
def um:Halt→Prop
 | .goexit| .blocked| .waiting| .unsupported (.initOrder _)=>False
 | _=>True
def Dead{α:Type}:Sem α→Prop
 | .halt h=>um h
 | .shape _ k=>∀x,Dead (k x)
 | .frozen _ k=>∀x,Dead (k x)
 | .choose _ k=>∀x,Dead (k x)
 | .mark _ k=>Dead k
 | _=>False
theorem Dead.bind{α β:Type}{s:Sem α}(f:α→Sem β)(h:Dead s):Dead (s.bind f):=by
 induction s with
 | shape r k ih=>exact fun x=>ih x (h x)
 | frozen r k ih=>exact fun x=>ih x (h x)
 | choose r k ih=>exact fun x=>ih x (h x)
 | mark m k ih=>exact ih h
 | halt e=>exact h
 | _=>exact h.elim
def SR(P:Program){α β:Type}(Q:Ren→α→β→Prop):Ren→Sem α→Sem β→Prop
 | ρ,.pure a,s'=>∃b,s'=.pure b∧Q ρ a b
 | ρ,.load m a k,s'=>∃a' k',s'=.load m a' k'∧m=.plain∧AR ρ a a'∧∀ρ',Ext ρ ρ'→∀v v',VR ρ' v v'→SR P Q ρ' (k v) (k' v')
 | ρ,.store m a v k,s'=>∃a' v' k',s'=.store m a' v' k'∧m=.plain∧AR ρ a a'∧VR ρ v v'∧SR P Q ρ k k'
 | ρ,.new o k,s'=>∃o' k',s'=.new o' k'∧OR ρ o o'∧∀ρ',Ext ρ ρ'→∀r r',ρ' r=some r'→SR P Q ρ' (k r) (k' r')
 | ρ,.shape r k,s'=>∃r' k',s'=.shape r' k'∧ρ r=some r'∧∀x,SR P Q ρ (k x) (k' x)
 | ρ,.getObj r k,s'=>∃r' k',s'=.getObj r' k'∧ρ r=some r'∧∀ρ',Ext ρ ρ'→∀o o',OR ρ' o o'→SR P Q ρ' (k o) (k' o')
 | ρ,.setObj r o k,s'=>∃r' o' k',s'=.setObj r' o' k'∧ρ r=some r'∧OR ρ o o'∧SR P Q ρ k k'
 | ρ,.choose q k,s'=>∃k',s'=.choose q k'∧∀n,SR P Q ρ (k n) (k' n)
 | ρ,.program k,s'=>∃k',s'=.program k'∧SR P Q ρ (k P) (k' P)
 | _,.halt h,_=>um h
 | _,.frozen _ k,_=>∀x,Dead (k x)
 | ρ,.mark m k,s'=>∃k',s'=.mark m k'∧m=.noRoom∧SR P Q ρ k k'
 | _,.freeze ..,_|_,.sys ..,_=>False
def tD{α β:Type}(Q:Ren→α→β→Prop):Prop:=∀ρ ρ',Le ρ ρ'→∀a b,Q ρ a b→Q ρ' a b
theorem SR.mono{P:Program}{α β:Type}{Q:Ren→α→β→Prop}(hQ:tD Q){s:Sem α}:∀ {ρ ρ':Ren} {s':Sem β},Le ρ ρ'→SR P Q ρ s s'→SR P Q ρ' s s':=by
 induction s with
 | pure a=>rintro ρ ρ' s' l ⟨b,e,h⟩;exact⟨b,e,hQ _ _ l _ _ h⟩
 | load m a k ih=>rintro ρ ρ' s' l ⟨a',k',e,hm,h,hk⟩;exact⟨a',k',e,hm,h.mono l,fun ρ2 l2=>hk ρ2 (.of l l2)⟩
 | store m a v k ih=>rintro ρ ρ' s' l ⟨a',v',k',e,hm,h,hv,hk⟩;exact⟨a',v',k',e,hm,h.mono l,hv.mono l,ih l hk⟩
 | new o k ih=>rintro ρ ρ' s' l ⟨o',k',e,h,hk⟩;exact⟨o',k',e,h.mono l,fun ρ2 l2=>hk ρ2 (.of l l2)⟩
 | shape r k ih=>rintro ρ ρ' s' l ⟨r',k',e,h,hk⟩;exact⟨r',k',e,l _ _ h,fun x=>ih x l (hk x)⟩
 | getObj r k ih=>rintro ρ ρ' s' l ⟨r',k',e,h,hk⟩;exact⟨r',k',e,l _ _ h,fun ρ2 l2=>hk ρ2 (.of l l2)⟩
 | setObj r o k ih=>rintro ρ ρ' s' l ⟨r',o',k',e,h,ho,hk⟩;exact⟨r',o',k',e,l _ _ h,ho.mono l,ih l hk⟩
 | choose q k ih=>rintro ρ ρ' s' l ⟨k',e,hk⟩;exact⟨k',e,fun n=>ih n l (hk n)⟩
 | program k ih=>rintro ρ ρ' s' l ⟨k',e,hk⟩;exact⟨k',e,ih P l hk⟩
 | halt h=>intros;assumption
 | freeze a n k ih=>intro ρ ρ' s' l h;exact h.elim
 | frozen a k ih=>intro ρ ρ' s' l h;exact h
 | sys c k ih=>intro ρ ρ' s' l h;exact h.elim
 | mark m k ih=>rintro ρ ρ' s' l ⟨k',e,hm,hk⟩;exact⟨k',e,hm,ih l hk⟩
theorem SR.bind{P:Program}{α β γ δ:Type}{Q:Ren→α→β→Prop}{R:Ren→γ→δ→Prop}{s:Sem α}{f:α→Sem γ}{f':β→Sem δ}:
 ∀ {ρ:Ren} {s':Sem β},dL ρ→SR P Q ρ s s'→(∀ρ',Ext ρ ρ'→∀a b,Q ρ' a b→SR P R ρ' (f a) (f' b))→SR P R ρ (s.bind f) (s'.bind f'):=by
 induction s with
 | pure a=>rintro ρ s' hi ⟨b,rfl,h⟩ hf;exact hf ρ (.refl hi) a b h
 | load m a k ih=>rintro ρ s' hi ⟨a',k',rfl,hm,h,hk⟩ hf;exact⟨a',_,rfl,hm,h,fun ρ2 l2 v v' hv=>ih v l2.2 (hk ρ2 l2 v v' hv) fun ρ3 l3=>hf ρ3 (l2.trans l3)⟩
 | store m a v k ih=>rintro ρ s' hi ⟨a',v',k',rfl,hm,h,hv,hk⟩ hf;exact⟨a',v',_,rfl,hm,h,hv,ih hi hk hf⟩
 | new o k ih=>rintro ρ s' hi ⟨o',k',rfl,h,hk⟩ hf;exact⟨o',_,rfl,h,fun ρ2 l2 r r' hr=>ih r l2.2 (hk ρ2 l2 r r' hr) fun ρ3 l3=>hf ρ3 (l2.trans l3)⟩
 | shape r k ih=>rintro ρ s' hi ⟨r',k',rfl,h,hk⟩ hf;exact⟨r',_,rfl,h,fun x=>ih x hi (hk x) hf⟩
 | getObj r k ih=>rintro ρ s' hi ⟨r',k',rfl,h,hk⟩ hf;exact⟨r',_,rfl,h,fun ρ2 l2 o o' ho=>ih o l2.2 (hk ρ2 l2 o o' ho) fun ρ3 l3=>hf ρ3 (l2.trans l3)⟩
 | setObj r o k ih=>rintro ρ s' hi ⟨r',o',k',rfl,h,ho,hk⟩ hf;exact⟨r',o',_,rfl,h,ho,ih hi hk hf⟩
 | choose q k ih=>rintro ρ s' hi ⟨k',rfl,hk⟩ hf;exact⟨_,rfl,fun n=>ih n hi (hk n) hf⟩
 | program k ih=>rintro ρ s' hi ⟨k',rfl,hk⟩ hf;exact⟨_,rfl,ih P hi hk hf⟩
 | halt h=>intros;assumption
 | freeze a n k ih=>intro ρ s' _ h;exact h.elim
 | frozen a k ih=>intro ρ s' _ h _;exact fun x=>(h x).bind f
 | sys c k ih=>intro ρ s' _ h;exact h.elim
 | mark m k ih=>rintro ρ s' hi ⟨k',rfl,hm,hk⟩ hf;exact⟨_,rfl,hm,ih hi hk hf⟩
theorem SR.bind'{P:Program}{α β γ δ:Type}{Q:Ren→α→β→Prop}{R:Ren→γ→δ→Prop}{s:Sem α}{f:α→Sem γ}{f':β→Sem δ}{ρ:Ren}{s':Sem β}(hi:dL ρ)
 (h:SR P Q ρ s s')(hf:∀ρ',Ext ρ ρ'→∀a b,Q ρ' a b→SR P R ρ' (f a) (f' b)):SR P R ρ (s >>= f) (s' >>= f'):=h.bind hi hf
theorem SR.pure{P:Program}{α β:Type}{Q:Ren→α→β→Prop}{ρ:Ren}{a:α}{b:β}(h:Q ρ a b):SR P Q ρ (Pure.pure a) (Pure.pure b):=⟨b,rfl,h⟩
theorem SR.imp{P:Program}{α β:Type}{Q Q':Ren→α→β→Prop}(hq:∀ρ a b,Q ρ a b→Q' ρ a b){s:Sem α}{s':Sem β}{ρ:Ren}(hi:dL ρ)(h:SR P Q ρ s s'):SR P Q' ρ s s':=by
 have:=h.bind hi (f:=Sem.pure) (f':=Sem.pure) (R:=Q') fun ρ' _ a b q=>⟨b,rfl,hq ρ' a b q⟩
 have e:∀ {γ:Type} (t:Sem γ),t.bind Sem.pure=t:=by
  intro γ t
  induction t <;> simp[Sem.bind, *]
 rwa[e,e] at this
end
section
variable[Inhabited aV]
def Fz(w:World)(b:Nat):Prop:=∃c e f,w.heap[b]? =some (.cells c e f)∧∀o,o<c.size→f.1≤o∧o<f.2
def R7(O C:Nat→Prop)(e:Event):Prop:=e=⟨.mark .noRoom,false,true⟩∨
 e.sync=false∧((∃a,e.loc=.cell a∧(O a.block∨(e.write=false∧C a.block)))∨(∃r,e.loc=.obj r∧O r))
structure Ran(C O O1:Nat→Prop)(ρ ρ1:Ren)(w w1 w' w1':World)(new:List Event):Prop where
 le:Le ρ ρ1
 wr:WR ρ1 w1 w1'
 tuned:kK w1 w1'
 tape:w1'.tape=w'.tape
 os:w1'.os=w'.os
 output:w1'.output=w'.output
 size:w'.heap.size≤w1'.heap.size
 other:∀b,b<w'.heap.size→¬ O b→w1'.heap[b]? =w'.heap[b]?
 own:∀b,O1 b↔O b∨(w'.heap.size≤b∧b<w1'.heap.size)
 cl:∀b b',ρ1 b=some b'→(Fz w1 b∧C b')∨O1 b'
 evs:∀e∈new,R7 O1 C e
variable{P:Program}
theorem WR.lt{ρ:Ren}{w w':World}(h:WR ρ w w'){b b':Nat}(e:ρ b=some b'):b<w.heap.size∧b'<w'.heap.size:=by
 obtain⟨o,o',h1,h2,_⟩:=h.obj b b' e
 exact⟨(Array.getElem?_eq_some_iff.1 h1).1,(Array.getElem?_eq_some_iff.1 h2).1⟩
theorem rV{ρ:Ren}{w w':World}(h:WR ρ w w'){a a':Addr}(ha:AR ρ a a'){v:Value}(hv:w.cell? a=some v):∃v',w'.cell? a'=some v'∧VR ρ v v':=by
 obtain⟨o,o',h1,h2,ho⟩:=h.obj _ _ ha.1
 cases ho with
 | map k hk=>simp[World.cell?,h1] at hv
 | number l hk=>simp[World.cell?,h1] at hv
 | loop hk=>simp[World.cell?,h1] at hv
 | defs hk=>simp[World.cell?,h1] at hv
 | cells e hc hf=>
   simp only[World.cell?,h1] at hv
   simp only[World.cell?,h2,ha.2.1,ha.2.2]
   split at hv
   ·cases hv
   ·rename_i hs
    simp only[if_neg hs]
    rcases hc.get? a.off with⟨x,_⟩|⟨x,x',e1,e2,e3⟩
    ·rw[x] at hv;cases hv
    ·rw[e1] at hv;cases hv;exact⟨x',e2,e3⟩
theorem KT{ρ:Ren}{w w':World}(h:WR ρ w w'){a a':Addr}(ha:AR ρ a a')(hv:w.frozen? a=false):w'.frozen? a'=false:=by
 obtain⟨o,o',h1,h2,ho⟩:=h.obj _ _ ha.1
 cases ho with
 | map k hk=>simp[World.frozen?,h2]
 | number l hk=>simp[World.frozen?,h2]
 | loop hk=>simp[World.frozen?,h2]
 | defs hk=>simp[World.frozen?,h2]
 | cells e hc hf=>
   rename_i f f'
   obtain⟨lo,hi⟩:=f
   obtain⟨lo',hi'⟩:=f'
   simp only[World.frozen?,h1] at hv
   simp only[World.frozen?,h2,ha.2.1]
   by_cases c:lo'≤a.off∧a.off<hi'
   ·have:=hf a.off c.1 c.2
    simp only at this
    simp[this.1,this.2] at hv
   ·simp only[Bool.and_eq_false_iff,decide_eq_false_iff_not]
    omega
theorem BT{ρ:Ren}{w w':World}(h:WR ρ w w'){a:Addr}{b':Nat}(ha:ρ a.block=some b')(at_:Bool):∃e,w.farLoad P a at_=.error e:=by
 obtain⟨o,o',h1,h2,ho⟩:=h.obj _ _ ha
 cases ho <;> exact⟨_,by simp only[World.farLoad,h1];rfl⟩
theorem mz{ρ:Ren}{w w':World}(h:WR ρ w w'){a:Addr}{b':Nat}(ha:ρ a.block=some b')(v:Value)(at_:Bool):∃e,w.farStore P a v at_=.error e:=by
 obtain⟨o,o',h1,h2,ho⟩:=h.obj _ _ ha
 cases ho <;> exact⟨_,by simp only[World.farStore,h1];rfl⟩
theorem gF(w:World)(a:Addr)(v:Value){b:Nat}(h:b≠a.block):(w.setCell a v).heap[b]? =w.heap[b]?:=by
 simp[World.setCell,Array.getElem?_modify,Ne.symm h]
theorem nL(w:World)(a:Addr)(v:Value){c:Array Value}{e:TypeId}{f:Nat × Nat}(h:w.heap[a.block]? =some (.cells c e f)):
 (w.setCell a v).heap[a.block]? =some (.cells (if a.spot.isSome then c else c.setIfInBounds a.off v) e f):=by
 simp[World.setCell,Array.getElem?_modify,h]
theorem size_setCell(w:World)(a:Addr)(v:Value):(w.setCell a v).heap.size=w.heap.size:=by simp[World.setCell]
theorem WR.setCell{ρ:Ren}{w w':World}(h:WR ρ w w'){a a':Addr}(ha:AR ρ a a'){v v':Value}(hv:VR ρ v v'):WR ρ (w.setCell a v) (w'.setCell a' v'):=by
 refine⟨fun b b' e=>?_,h.inj⟩
 obtain⟨o,o',h1,h2,ho⟩:=h.obj b b' e
 by_cases hb:b=a.block
 ·subst hb
  have hb':b'=a'.block:=by have:=ha.1;rw[e] at this;exact Option.some.inj this
  subst hb'
  cases ho with
  | map k hk=>
    refine⟨_,_,?_,?_,.map k hk⟩
    ·simp[World.setCell,Array.getElem?_modify,h1]
    ·simp[World.setCell,Array.getElem?_modify,h2]
  | number k hk=>
    refine⟨_,_,?_,?_,.number k hk⟩
    ·simp[World.setCell,Array.getElem?_modify,h1]
    ·simp[World.setCell,Array.getElem?_modify,h2]
  | loop hk=>
    refine⟨_,_,?_,?_,.loop hk⟩
    ·simp[World.setCell,Array.getElem?_modify,h1]
    ·simp[World.setCell,Array.getElem?_modify,h2]
  | defs hk=>
    refine⟨_,_,?_,?_,.defs hk⟩
    ·simp[World.setCell,Array.getElem?_modify,h1]
    ·simp[World.setCell,Array.getElem?_modify,h2]
  | cells e1 hc hf=>
    refine⟨_,_,nL w a v h1,nL w' a' v' h2,?_⟩
    rw[ha.2.1,ha.2.2]
    split
    ·exact .cells e1 hc hf
    ·exact .cells e1 (hc.set _ hv) hf
 ·have hb':b'≠a'.block:=fun e2=>hb (h.inj _ _ _ e (by rw[e2];exact ha.1))
  exact⟨o,o',by rw[gF _ _ _ hb];exact h1,by rw[gF _ _ _ hb'];exact h2,ho⟩
theorem Fz.setCell{w:World}{a:Addr}{v:Value}{b:Nat}(h:Fz w b)(ha:∀c e f,w.heap[a.block]? =some (.cells c e f)→¬ (f.1≤a.off∧a.off<f.2)∧a.off<c.size):Fz (w.setCell a v) b:=by
 obtain⟨c,e,f,h1,h2⟩:=h
 by_cases hb:b=a.block
 ·subst hb
  obtain⟨h3,h4⟩:=ha c e f h1
  exact absurd (h2 _ h4) h3
 ·exact⟨c,e,f,by rw[gF _ _ _ hb];exact h1,h2⟩
theorem I5{ρ:Ren}{C O:Nat→Prop}{w:World}(hc:∀b b',ρ b=some b'→(Fz w b∧C b')∨O b'){a a':Addr}(ha:AR ρ a a'){v:Value}(hv:w.cell? a=some v)(hf:w.frozen? a=false):O a'.block:=by
 rcases hc _ _ ha.1 with⟨⟨c,e,f,h1,h2⟩,_⟩|h
 ·obtain⟨lo,hi⟩:=f
  simp only[World.cell?,h1] at hv
  split at hv
  ·cases hv
  ·have:=h2 a.off (Array.getElem?_eq_some_iff.1 hv).1
   simp only[World.frozen?,h1] at hf
   simp only at this
   simp[this.1,this.2] at hf
 ·exact h
theorem kK.draw{w w':World}(h:kK w w'):kK {w with drawn:=w.drawn+1 } {w' with drawn:=w'.drawn+1 }:=by
 intro k q
 have:=h (1+k) q
 simpa only[Nat.add_assoc] using this
def Ren.put(ρ:Ren)(b b':Nat):Ren:=fun x=>if x=b then some b' else ρ x
theorem WR.new{ρ:Ren}{w w':World}(h:WR ρ w w'){o o':Obj}(ho:OR ρ o o'):Le ρ (Ren.put ρ w.heap.size w'.heap.size)∧WR (Ren.put ρ w.heap.size w'.heap.size) {w with heap:=w.heap.push o } {w' with heap:=w'.heap.push o' }:=by
 have le:Le ρ (Ren.put ρ w.heap.size w'.heap.size):=fun b b' e=>by
  have:=(h.lt e).1
  simp only[Ren.put]
  rw[if_neg zo];exact e
 refine⟨le,⟨fun b b' e=>?_,fun a b c ea eb=>?_⟩⟩
 ·simp only[Ren.put] at e
  split at e
  ·rename_i hb
   subst hb;cases e
   exact⟨o,o',zs,zs,ho.mono le⟩
  ·obtain⟨x,x',h1,h2,h3⟩:=h.obj b b' e
   have l1:=(h.lt e).1
   have l2:=(h.lt e).2
   exact⟨x,x',by simp only[Array.getElem?_push_lt l1];rw[← h1,Array.getElem?_eq_getElem l1],by simp only[Array.getElem?_push_lt l2];rw[← h2,Array.getElem?_eq_getElem l2],h3.mono le⟩
 ·simp only[Ren.put] at ea eb
  split at ea <;> split at eb
  ·omega
  ·cases ea;have:=(h.lt eb).2;omega
  ·cases eb;have:=(h.lt ea).2;omega
  ·exact h.inj _ _ _ ea eb
theorem Fz.push{w:World}{o:Obj}{b:Nat}(h:Fz w b):Fz {w with heap:=w.heap.push o } b:=by
 obtain⟨c,e,f,h1,h2⟩:=h
 have l:=(Array.getElem?_eq_some_iff.1 h1).1
 exact⟨c,e,f,by simp only[Array.getElem?_push_lt l];rw[← h1,Array.getElem?_eq_getElem l],h2⟩
theorem QJ{ρ:Ren}{w w':World}(h:WR ρ w w'){r r':Nat}(e:ρ r=some r'):w'.shape? r'=w.shape? r:=by
 obtain⟨o,o',h1,h2,ho⟩:=h.obj _ _ e
 cases ho with
 | map k hk=>simp[World.shape?,h1,h2]
 | number k hk=>simp[World.shape?,h1,h2]
 | loop hk=>simp[World.shape?,h1,h2]
 | defs hk=>simp[World.shape?,h1,h2]
 | cells e hc hf=>simp[World.shape?,h1,h2,hc.1]
theorem WR.setObj{ρ:Ren}{w w':World}(h:WR ρ w w'){r r':Nat}(e:ρ r=some r'){o o':Obj}(ho:OR ρ o o'):WR ρ {w with heap:=w.heap.setIfInBounds r o } {w' with heap:=w'.heap.setIfInBounds r' o' }:=by
 refine⟨fun b b' eb=>?_,h.inj⟩
 by_cases hb:b=r
 ·subst hb
  have hb':b'=r':=by rw[e] at eb;exact(Option.some.inj eb).symm
  subst hb'
  obtain⟨l1,l2⟩:=h.lt e
  exact⟨o,o',by simp[l1],by simp[l2],ho⟩
 ·have hb':b'≠r':=fun e2=>hb (h.inj _ _ _ eb (by rw[e2];exact e))
  obtain⟨x,x',h1,h2,h3⟩:=h.obj b b' eb
  exact⟨x,x',by simp only[Array.getElem?_setIfInBounds_ne (Ne.symm hb)];exact h1,by simp only[Array.getElem?_setIfInBounds_ne (Ne.symm hb')];exact h2,h3⟩
theorem YR{ρ:Ren}{v v':Value}(h:VR ρ v v')(h1:∀c,v≠.agg c)(h2:∀c,v≠.tuple c):(∀c,v'≠.agg c)∧(∀c,v'≠.tuple c):=by
 cases h <;> first|exact absurd rfl (h1 _)|exact absurd rfl (h2 _)|exact⟨zs,zs⟩
theorem run_store{α:Type}{m:Mode}{a:Addr}{v:Value}{k:Sem α}{w:World}(h1:∀c,v≠.agg c)(h2:∀c,v≠.tuple c):(Sem.store m a v k).run P w=match w.cell? a with
 | some _=>if w.frozen? a then .halt (.unsupported (.unsafePointer "a write to bytes that a string shares")) w else k.run P (w.setCell a v)
 | none=>match w.farStore P a v (m == .atomic) with
   | .ok (w,_)=>k.run P w
   | .error h=>.halt h w:=by
 cases v <;> first|rfl|exact absurd rfl (h1 _)|exact absurd rfl (h2 _)
theorem Mi{α:Type}{m:Mode}{a:Addr}{v:Value}{k:Sem α}{w:World}{es:Array Event}(h1:∀c,v≠.agg c)(h2:∀c,v≠.tuple c){x:Value}(hx:w.cell? a=some x)(hf:w.frozen? a=false):
 (Sem.store m a v k).runT P w es=k.runT P (w.setCell a v) (es.push ⟨.cell a,true,m == .atomic⟩):=by
 have e:(Sem.store m a v k).runT P w es=match w.cell? a with
  | some _=>
    if w.frozen? a then(.halt (.unsupported (.unsafePointer "a write to bytes that a string shares")) w,es)
    else k.runT P (w.setCell a v) (es.push ⟨.cell a,true,m == .atomic⟩)
  | none=>match w.farStore P a v (m == .atomic) with
    | .ok (w,touched)=>k.runT P w (es ++ touched.toArray.map (⟨.cell ·,true,m == .atomic⟩))
    | .error h=>(.halt h w,es):=by
  cases v <;> first|rfl|exact absurd rfl (h1 _)|exact absurd rfl (h2 _)
 rw[e,hx]
 simp[hf]
theorem Ran.trans{C O O1 O2:Nat→Prop}{ρ ρ1 ρ2:Ren}{w w1 w2 v v1 v2:World}{n m:List Event}(h:Ran C O O1 ρ ρ1 w w1 v v1 n)(k:Ran C O1 O2 ρ1 ρ2 w1 w2 v1 v2 m):Ran C O O2 ρ ρ2 w w2 v v2 (n ++ m):=by
 refine⟨h.le.trans k.le,k.wr,k.tuned,k.tape.trans h.tape,k.os.trans h.os,k.output.trans h.output,Nat.le_trans h.size k.size,fun b hb ho=>?_,fun b=>?_,k.cl,fun e he=>?_⟩
 ·rw[k.other b (Nat.lt_of_lt_of_le hb h.size) (fun o1=>by rcases(h.own b).1 o1 with o|⟨o,_⟩;exact ho o;omega)]
  exact h.other b hb ho
 ·rw[k.own,h.own]
  have:=h.size
  have:=k.size
  constructor
  ·rintro((a|⟨a,b⟩)|⟨a,b⟩)
   ·exact .inl a
   ·exact .inr ⟨a,zo⟩
   ·exact .inr ⟨zo,b⟩
  ·rintro(a|⟨a,b⟩)
   ·exact .inl (.inl a)
   ·rcases Nat.lt_or_ge ‹Nat› v1.heap.size with c|c
    ·exact .inl (.inr ⟨a,c⟩)
    ·exact .inr ⟨c,b⟩
 ·rcases List.mem_append.1 he with he|he
  ·rcases h.evs e he with e0|⟨s,q⟩
   ·exact .inl e0
   refine .inr ⟨s,?_⟩
   rcases q with⟨a,ea,q|q⟩|⟨r,er,q⟩
   ·exact .inl ⟨a,ea,.inl ((k.own _).2 (.inl q))⟩
   ·exact .inl ⟨a,ea,.inr q⟩
   ·exact .inr ⟨r,er,(k.own _).2 (.inl q)⟩
  ·exact k.evs e he
theorem Ran.still{C O:Nat→Prop}{ρ:Ren}{w w1 v v1:World}{n:List Event}(wr:WR ρ w1 v1)(tu:kK w1 v1)(tape:v1.tape=v.tape)(os:v1.os=v.os)(out:v1.output=v.output)(size:v1.heap.size=v.heap.size)
 (other:∀b,b<v.heap.size→¬ O b→v1.heap[b]? =v.heap[b]?)(cl:∀b b',ρ b=some b'→(Fz w1 b∧C b')∨O b')(evs:∀e∈n,R7 O C e):Ran C O O ρ ρ w w1 v v1 n:=
 ⟨.refl ρ,wr,tu,tape,os,out,zo,other,fun b=>⟨.inl,fun h=>h.elim id fun⟨a,b⟩=>zo⟩,cl,evs⟩
theorem Dead.run{α:Type}{s:Sem α}(h:Dead s):∀w:World,(∀a w1,s.run P w≠.ok a w1)∧∀e w1,s.run P w=.halt e w1→um e:=by
 induction s with
 | shape r k ih=>intro w;exact ih _ (h _) w
 | frozen r k ih=>intro w;exact ih _ (h _) w
 | choose q k ih=>
   intro w
   simp only[Sem.run]
   split
   ·exact ih _ (h _) _
   ·exact ih _ (h _) _
 | mark m k ih=>intro w;exact ih h w
 | halt e=>intro w;exact⟨fun a w1 e=>by simp[Sem.run] at e,fun e' w1 e2=>by simp only[Sem.run,Result.halt.injEq] at e2;rw[← e2.1];exact h⟩
 | _=>exact h.elim
theorem SR.runT{α β:Type}{Q:Ren→α→β→Prop}{C:Nat→Prop}{s:Sem α}:∀ {ρ:Ren} {s':Sem β} {w w':World} {O:Nat→Prop} {es:Array Event},SR P Q ρ s s'→WR ρ w w'→kK w w'→
 (∀b b',ρ b=some b'→(Fz w b∧C b')∨O b')→∀ {a:α} {w1:World},s.run P w=.ok a w1→
 ∃ρ1 b w1' O1 new,s'.runT P w' es=(.ok b w1',es ++ new.toArray)∧Q ρ1 a b∧Ran C O O1 ρ ρ1 w w1 w' w1' new:=by
 induction s with
 | pure a=>
   rintro ρ s' w w' O es ⟨b,rfl,hq⟩ hw ht hc a' w1 hr
   simp only[Sem.run,Result.ok.injEq] at hr
   obtain⟨rfl,rfl⟩:=hr
   exact⟨ρ,b,w',O,[],by simp[Sem.runT],hq,.still hw ht rfl rfl rfl rfl (fun _ _ _=>rfl) hc zs⟩
 | load m a k ih=>
   rintro ρ s' w w' O es ⟨a',k',rfl,rfl,ha,hk⟩ hw ht hc x w1 hr
   cases hv:w.cell? a with
   | none=>
     obtain⟨e,he⟩:=BT (P:=P) hw ha.1 (a:=a) (Mode.plain == Mode.atomic)
     simp only[Sem.run,hv,he] at hr
     cases hr
   | some v=>
     obtain⟨v',hv',An⟩:=rV hw ha hv
     simp only[Sem.run,hv] at hr
     obtain⟨ρ1,b,w1',O1,new,h1,h2,h3⟩:=ih v (es:=es.push ⟨.cell a',false,false⟩) (hk ρ (.refl hw.inj) v v' An) hw ht hc hr
     refine⟨ρ1,b,w1',O1,⟨.cell a',false,false⟩ :: new,?_,h2,?_⟩
     ·simp only[Sem.runT,hv']
      have:(Mode.plain == Mode.atomic)=false:=rfl
      rw[this,h1];simp
     ·refine Ran.trans (n:=[⟨.cell a',false,false⟩]) (.still hw ht rfl rfl rfl rfl (fun _ _ _=>rfl) hc ?_) h3
      intro e he
      simp only[List.mem_singleton] at he
      subst he
      refine .inr ⟨rfl,.inl ⟨a',rfl,?_⟩⟩
      rcases hc _ _ ha.1 with h|h
      ·exact .inr ⟨rfl,h.2⟩
      ·exact .inl h
 | store m a v k ih=>
   rintro ρ s' w w' O es ⟨a',v',k',rfl,rfl,ha,hv,hk⟩ hw ht hc x w1 hr
   by_cases h1:∀c,v≠.agg c
   ·by_cases h2:∀c,v≠.tuple c
    ·obtain⟨h1',h2'⟩:=YR hv h1 h2
     rw[run_store h1 h2] at hr
     cases hx:w.cell? a with
     | none=>
       obtain⟨e,he⟩:=mz (P:=P) hw ha.1 (a:=a) v (Mode.plain == Mode.atomic)
       simp only[hx,he] at hr
       cases hr
     | some x0=>
       simp only[hx] at hr
       cases hf:w.frozen? a with
       | true=>simp only[hf,if_true] at hr;cases hr
       | false=>
         simp only[hf,Bool.false_eq_true,if_false] at hr
         obtain⟨x0',hx',_⟩:=rV hw ha hx
         have hf':=KT hw ha hf
         have hO:=I5 hc ha hx hf
         have hc2:∀b b',ρ b=some b'→(Fz (w.setCell a v) b∧C b')∨O b':=fun b b' e=>by
          rcases hc b b' e with⟨h,hC⟩|h
          ·refine .inl ⟨h.setCell fun c e f hh=>?_,hC⟩
           simp only[World.cell?,hh] at hx
           simp only[World.frozen?,hh] at hf
           split at hx
           ·cases hx
           ·refine⟨fun⟨p,q⟩=>?_,(Array.getElem?_eq_some_iff.1 hx).1⟩
            simp[p,q] at hf
          ·exact .inr h
         have ht2:kK (w.setCell a v) (w'.setCell a' v'):=ht
         obtain⟨ρ1,b,w1',O1,new,r1,r2,r3⟩:=ih (es:=es.push ⟨.cell a',true,false⟩) hk (hw.setCell ha hv) ht2 hc2 hr
         refine⟨ρ1,b,w1',O1,⟨.cell a',true,false⟩ :: new,?_,r2,?_⟩
         ·rw[Mi h1' h2' hx' hf']
          have:(Mode.plain == Mode.atomic)=false:=rfl
          rw[this,r1];simp
         ·refine Ran.trans (n:=[⟨.cell a',true,false⟩]) (.still (hw.setCell ha hv) ht2 rfl rfl rfl (size_setCell _ _ _) (fun b _ ho=>gF _ _ _ (fun e=>ho (e ▸ hO))) hc2 ?_) r3
          intro e he
          simp only[List.mem_singleton] at he
          subst he
          exact .inr ⟨rfl,.inl ⟨a',rfl,.inl hO⟩⟩
    ·simp only[ne_eq,Classical.not_forall,Classical.not_not] at h2
     obtain⟨c,rfl⟩:=h2
     simp only[Sem.run] at hr
     cases hr
   ·simp only[ne_eq,Classical.not_forall,Classical.not_not] at h1
    obtain⟨c,rfl⟩:=h1
    simp only[Sem.run] at hr
    cases hr
 | new o k ih=>
   rintro ρ s' w w' O es ⟨o',k',rfl,ho,hk⟩ hw ht hc x w1 hr
   simp only[Sem.run] at hr
   obtain⟨le,hw2⟩:=hw.new ho
   have hc2:∀b b',Ren.put ρ w.heap.size w'.heap.size b=some b'→(Fz {w with heap:=w.heap.push o } b∧C b')∨(O b'∨b'=w'.heap.size):=fun b b' e=>by
    simp only[Ren.put] at e
    split at e
    ·cases e;exact .inr (.inr rfl)
    ·rcases hc b b' e with⟨h,hC⟩|h
     ·exact .inl ⟨h.push,hC⟩
     ·exact .inr (.inl h)
   have ht2:kK {w with heap:=w.heap.push o } {w' with heap:=w'.heap.push o' }:=ht
   obtain⟨ρ1,b,w1',O1,new,r1,r2,r3⟩:=ih w.heap.size (es:=es) (hk _ ⟨le,hw2.inj⟩ w.heap.size w'.heap.size (by simp[Ren.put])) hw2 ht2 hc2 hr
   refine⟨ρ1,b,w1',O1,new,?_,r2,?_⟩
   ·simp only[Sem.runT];exact r1
   ·have h0:Ran C O (fun b=>O b∨b=w'.heap.size) ρ (Ren.put ρ w.heap.size w'.heap.size) w {w with heap:=w.heap.push o } w' {w' with heap:=w'.heap.push o' } []:=by
     refine⟨le,hw2,ht2,rfl,rfl,rfl,zs,fun b hb _=>by simp only[Array.getElem?_push_lt hb];rw[Array.getElem?_eq_getElem hb],fun b=>?_,hc2,zs⟩
     simp only[Array.size_push]
     constructor
     ·rintro(h|h)
      ·exact .inl h
      ·exact .inr zo
     ·rintro(h|h)
      ·exact .inl h
      ·exact .inr zo
    have:=h0.trans r3
    simpa using this
 | shape r k ih=>
   rintro ρ s' w w' O es ⟨r',k',rfl,e,hk⟩ hw ht hc x w1 hr
   simp only[Sem.run] at hr
   obtain⟨ρ1,b,w1',O1,new,h1,h2,h3⟩:=ih (w.shape? r) (es:=es) (hk _) hw ht hc hr
   exact⟨ρ1,b,w1',O1,new,by simp only[Sem.runT,QJ hw e];exact h1,h2,h3⟩
 | getObj r k ih=>
   rintro ρ s' w w' O es ⟨r',k',rfl,e,hk⟩ hw ht hc x w1 hr
   obtain⟨o,o',h1,h2,ho⟩:=hw.obj _ _ e
   cases ho with
   | cells e1 hc1 hf1=>simp only[Sem.run,h1] at hr;cases hr
   | map c hm=>
     simp only[Sem.run,h1] at hr
     obtain⟨ρ1,b,w1',O1,new,r1,r2,r3⟩:=ih _ (es:=es.push ⟨.obj r',false,false⟩) (hk ρ (.refl hw.inj) _ _ (.map c hm)) hw ht hc hr
     refine⟨ρ1,b,w1',O1,⟨.obj r',false,false⟩ :: new,?_,r2,?_⟩
     ·simp only[Sem.runT,h2]
      show(k' _).runT P w' (es.push ⟨.obj r',false,false⟩)=_
      rw[r1];simp
     ·refine Ran.trans (n:=[⟨.obj r',false,false⟩]) (.still hw ht rfl rfl rfl rfl (fun _ _ _=>rfl) hc ?_) r3
      intro e' he
      simp only[List.mem_singleton] at he
      subst he
      refine .inr ⟨rfl,.inr ⟨r',rfl,?_⟩⟩
      rcases hc _ _ e with⟨⟨c,e2,f,h3,_⟩,_⟩|h
      ·rw[h1] at h3;cases h3
      ·exact h
   | number c hm=>
     simp only[Sem.run,h1] at hr
     obtain⟨ρ1,b,w1',O1,new,r1,r2,r3⟩:=ih _ (es:=es.push ⟨.obj r',false,false⟩) (hk ρ (.refl hw.inj) _ _ (.number c hm)) hw ht hc hr
     refine⟨ρ1,b,w1',O1,⟨.obj r',false,false⟩ :: new,?_,r2,?_⟩
     ·simp only[Sem.runT,h2]
      show(k' _).runT P w' (es.push ⟨.obj r',false,false⟩)=_
      rw[r1];simp
     ·refine Ran.trans (n:=[⟨.obj r',false,false⟩]) (.still hw ht rfl rfl rfl rfl (fun _ _ _=>rfl) hc ?_) r3
      intro e' he
      simp only[List.mem_singleton] at he
      subst he
      refine .inr ⟨rfl,.inr ⟨r',rfl,?_⟩⟩
      rcases hc _ _ e with⟨⟨c,e2,f,h3,_⟩,_⟩|h
      ·rw[h1] at h3;cases h3
      ·exact h
   | loop hm=>
     simp only[Sem.run,h1] at hr
     obtain⟨ρ1,b,w1',O1,new,r1,r2,r3⟩:=ih _ (es:=es.push ⟨.obj r',false,false⟩) (hk ρ (.refl hw.inj) _ _ (.loop hm)) hw ht hc hr
     refine⟨ρ1,b,w1',O1,⟨.obj r',false,false⟩ :: new,?_,r2,?_⟩
     ·simp only[Sem.runT,h2]
      show(k' _).runT P w' (es.push ⟨.obj r',false,false⟩)=_
      rw[r1];simp
     ·refine Ran.trans (n:=[⟨.obj r',false,false⟩]) (.still hw ht rfl rfl rfl rfl (fun _ _ _=>rfl) hc ?_) r3
      intro e' he
      simp only[List.mem_singleton] at he
      subst he
      refine .inr ⟨rfl,.inr ⟨r',rfl,?_⟩⟩
      rcases hc _ _ e with⟨⟨c,e2,f,h3,_⟩,_⟩|h
      ·rw[h1] at h3;cases h3
      ·exact h
   | defs hm=>
     simp only[Sem.run,h1] at hr
     obtain⟨ρ1,b,w1',O1,new,r1,r2,r3⟩:=ih _ (es:=es.push ⟨.obj r',false,false⟩) (hk ρ (.refl hw.inj) _ _ (.defs hm)) hw ht hc hr
     refine⟨ρ1,b,w1',O1,⟨.obj r',false,false⟩ :: new,?_,r2,?_⟩
     ·simp only[Sem.runT,h2]
      show(k' _).runT P w' (es.push ⟨.obj r',false,false⟩)=_
      rw[r1];simp
     ·refine Ran.trans (n:=[⟨.obj r',false,false⟩]) (.still hw ht rfl rfl rfl rfl (fun _ _ _=>rfl) hc ?_) r3
      intro e' he
      simp only[List.mem_singleton] at he
      subst he
      refine .inr ⟨rfl,.inr ⟨r',rfl,?_⟩⟩
      rcases hc _ _ e with⟨⟨c,e2,f,h3,_⟩,_⟩|h
      ·rw[h1] at h3;cases h3
      ·exact h
 | setObj r o k ih=>
   rintro ρ s' w w' O es ⟨r',o',k',rfl,e,ho,hk⟩ hw ht hc x w1 hr
   obtain⟨p,p',h1,h2,hp⟩:=hw.obj _ _ e
   cases hp with
   | cells e1 hc1 hf1=>simp only[Sem.run,h1] at hr;cases hr
   | map c hm=>
     simp only[Sem.run,h1] at hr
     have hO:O r':=by
      rcases hc _ _ e with⟨⟨c,e2,f,h3,_⟩,_⟩|h
      ·rw[h1] at h3;cases h3
      ·exact h
     have hw2:=hw.setObj e ho
     have hc2:∀b b',ρ b=some b'→(Fz {w with heap:=w.heap.setIfInBounds r o } b∧C b')∨O b':=fun b b' eb=>by
      rcases hc b b' eb with⟨⟨c,e2,f,h3,h4⟩,hC⟩|h
      ·refine .inl ⟨⟨c,e2,f,?_,h4⟩,hC⟩
       have:r≠b:=fun er=>by subst er;rw[h1] at h3;cases h3
       simp only[Array.getElem?_setIfInBounds_ne this];exact h3
      ·exact .inr h
     have ht2:kK {w with heap:=w.heap.setIfInBounds r o } {w' with heap:=w'.heap.setIfInBounds r' o' }:=ht
     obtain⟨ρ1,b,w1',O1,new,r1,r2,r3⟩:=ih (es:=es.push ⟨.obj r',true,o'.isChan⟩) hk hw2 ht2 hc2 hr
     have hch:o'.isChan=false:=by cases ho <;> rfl
     refine⟨ρ1,b,w1',O1,⟨.obj r',true,false⟩ :: new,?_,r2,?_⟩
     ·simp only[Sem.runT,h2]
      rw[r1,hch];simp
     ·refine Ran.trans (n:=[⟨.obj r',true,false⟩]) (.still hw2 ht2 rfl rfl rfl zs (fun b _ hb=>?_) hc2 ?_) r3
      ·have:r'≠b:=fun er=>hb (er ▸ hO)
       simp only[Array.getElem?_setIfInBounds_ne this]
      ·intro e' he
       simp only[List.mem_singleton] at he
       subst he
       exact .inr ⟨rfl,.inr ⟨r',rfl,hO⟩⟩
   | number c hm=>
     simp only[Sem.run,h1] at hr
     have hO:O r':=by
      rcases hc _ _ e with⟨⟨c,e2,f,h3,_⟩,_⟩|h
      ·rw[h1] at h3;cases h3
      ·exact h
     have hw2:=hw.setObj e ho
     have hc2:∀b b',ρ b=some b'→(Fz {w with heap:=w.heap.setIfInBounds r o } b∧C b')∨O b':=fun b b' eb=>by
      rcases hc b b' eb with⟨⟨c,e2,f,h3,h4⟩,hC⟩|h
      ·refine .inl ⟨⟨c,e2,f,?_,h4⟩,hC⟩
       have:r≠b:=fun er=>by subst er;rw[h1] at h3;cases h3
       simp only[Array.getElem?_setIfInBounds_ne this];exact h3
      ·exact .inr h
     have ht2:kK {w with heap:=w.heap.setIfInBounds r o } {w' with heap:=w'.heap.setIfInBounds r' o' }:=ht
     obtain⟨ρ1,b,w1',O1,new,r1,r2,r3⟩:=ih (es:=es.push ⟨.obj r',true,o'.isChan⟩) hk hw2 ht2 hc2 hr
     have hch:o'.isChan=false:=by cases ho <;> rfl
     refine⟨ρ1,b,w1',O1,⟨.obj r',true,false⟩ :: new,?_,r2,?_⟩
     ·simp only[Sem.runT,h2]
      rw[r1,hch];simp
     ·refine Ran.trans (n:=[⟨.obj r',true,false⟩]) (.still hw2 ht2 rfl rfl rfl zs (fun b _ hb=>?_) hc2 ?_) r3
      ·have:r'≠b:=fun er=>hb (er ▸ hO)
       simp only[Array.getElem?_setIfInBounds_ne this]
      ·intro e' he
       simp only[List.mem_singleton] at he
       subst he
       exact .inr ⟨rfl,.inr ⟨r',rfl,hO⟩⟩
   | loop hm=>
     simp only[Sem.run,h1] at hr
     have hO:O r':=by
      rcases hc _ _ e with⟨⟨c,e2,f,h3,_⟩,_⟩|h
      ·rw[h1] at h3;cases h3
      ·exact h
     have hw2:=hw.setObj e ho
     have hc2:∀b b',ρ b=some b'→(Fz {w with heap:=w.heap.setIfInBounds r o } b∧C b')∨O b':=fun b b' eb=>by
      rcases hc b b' eb with⟨⟨c,e2,f,h3,h4⟩,hC⟩|h
      ·refine .inl ⟨⟨c,e2,f,?_,h4⟩,hC⟩
       have:r≠b:=fun er=>by subst er;rw[h1] at h3;cases h3
       simp only[Array.getElem?_setIfInBounds_ne this];exact h3
      ·exact .inr h
     have ht2:kK {w with heap:=w.heap.setIfInBounds r o } {w' with heap:=w'.heap.setIfInBounds r' o' }:=ht
     obtain⟨ρ1,b,w1',O1,new,r1,r2,r3⟩:=ih (es:=es.push ⟨.obj r',true,o'.isChan⟩) hk hw2 ht2 hc2 hr
     have hch:o'.isChan=false:=by cases ho <;> rfl
     refine⟨ρ1,b,w1',O1,⟨.obj r',true,false⟩ :: new,?_,r2,?_⟩
     ·simp only[Sem.runT,h2]
      rw[r1,hch];simp
     ·refine Ran.trans (n:=[⟨.obj r',true,false⟩]) (.still hw2 ht2 rfl rfl rfl zs (fun b _ hb=>?_) hc2 ?_) r3
      ·have:r'≠b:=fun er=>hb (er ▸ hO)
       simp only[Array.getElem?_setIfInBounds_ne this]
      ·intro e' he
       simp only[List.mem_singleton] at he
       subst he
       exact .inr ⟨rfl,.inr ⟨r',rfl,hO⟩⟩
   | defs hm=>
     simp only[Sem.run,h1] at hr
     have hO:O r':=by
      rcases hc _ _ e with⟨⟨c,e2,f,h3,_⟩,_⟩|h
      ·rw[h1] at h3;cases h3
      ·exact h
     have hw2:=hw.setObj e ho
     have hc2:∀b b',ρ b=some b'→(Fz {w with heap:=w.heap.setIfInBounds r o } b∧C b')∨O b':=fun b b' eb=>by
      rcases hc b b' eb with⟨⟨c,e2,f,h3,h4⟩,hC⟩|h
      ·refine .inl ⟨⟨c,e2,f,?_,h4⟩,hC⟩
       have:r≠b:=fun er=>by subst er;rw[h1] at h3;cases h3
       simp only[Array.getElem?_setIfInBounds_ne this];exact h3
      ·exact .inr h
     have ht2:kK {w with heap:=w.heap.setIfInBounds r o } {w' with heap:=w'.heap.setIfInBounds r' o' }:=ht
     obtain⟨ρ1,b,w1',O1,new,r1,r2,r3⟩:=ih (es:=es.push ⟨.obj r',true,o'.isChan⟩) hk hw2 ht2 hc2 hr
     have hch:o'.isChan=false:=by cases ho <;> rfl
     refine⟨ρ1,b,w1',O1,⟨.obj r',true,false⟩ :: new,?_,r2,?_⟩
     ·simp only[Sem.runT,h2]
      rw[r1,hch];simp
     ·refine Ran.trans (n:=[⟨.obj r',true,false⟩]) (.still hw2 ht2 rfl rfl rfl zs (fun b _ hb=>?_) hc2 ?_) r3
      ·have:r'≠b:=fun er=>hb (er ▸ hO)
       simp only[Array.getElem?_setIfInBounds_ne this]
      ·intro e' he
       simp only[List.mem_singleton] at he
       subst he
       exact .inr ⟨rfl,.inr ⟨r',rfl,hO⟩⟩
 | choose q k ih=>
   rintro ρ s' w w' O es ⟨k',rfl,hk⟩ hw ht hc x w1 hr
   simp only[Sem.run] at hr
   by_cases hf:q.forced=true
   ·rw[if_pos hf] at hr
    obtain⟨ρ1,b,w1',O1,new,h1,h2,h3⟩:=ih 0 (es:=es) (hk _) hw ht hc hr
    exact⟨ρ1,b,w1',O1,new,by simp only[Sem.runT,if_pos hf];exact h1,h2,h3⟩
   ·rw[if_neg hf] at hr
    have hq:w'.tape w'.drawn q=w.tape w.drawn q:=(ht 0 q).symm
    have hw2:WR ρ {w with drawn:=w.drawn+1 } {w' with drawn:=w'.drawn+1 }:=⟨hw.obj,hw.inj⟩
    have hc2:∀b b',ρ b=some b'→(Fz {w with drawn:=w.drawn+1 } b∧C b')∨O b':=hc
    obtain⟨ρ1,b,w1',O1,new,h1,h2,h3⟩:=ih _ (es:=es) (hk (q.cut (w.tape w.drawn q))) hw2 ht.draw hc2 hr
    refine⟨ρ1,b,w1',O1,new,by simp only[Sem.runT,if_neg hf,hq];exact h1,h2,?_⟩
    have:=Ran.trans (n:=[]) (O:=O) (w:=w) (v:=w') (.still hw2 ht.draw rfl rfl rfl rfl (fun _ _ _=>rfl) hc2 zs) h3
    simpa using this
 | program k ih=>
   rintro ρ s' w w' O es ⟨k',rfl,hk⟩ hw ht hc x w1 hr
   simp only[Sem.run] at hr
   obtain⟨ρ1,b,w1',O1,new,h1,h2,h3⟩:=ih P (es:=es) hk hw ht hc hr
   exact⟨ρ1,b,w1',O1,new,by simp only[Sem.runT];exact h1,h2,h3⟩
 | halt h=>intro ρ s' w w' O es _ _ _ _ a w1 hr;simp only[Sem.run] at hr;cases hr
 | freeze a n k ih=>intro ρ s' w w' O es h;exact h.elim
 | frozen a k ih=>intro ρ s' w w' O es h _ _ _ a1 w1 hr;simp only[Sem.run] at hr;exact((h _).run (P:=P) w).1 _ _ hr |>.elim
 | sys c k ih=>intro ρ s' w w' O es h;exact h.elim
 | mark m k ih=>
   rintro ρ s' w w' O es ⟨k',rfl,rfl,hk⟩ hw ht hc x w1 hr
   simp only[Sem.run] at hr
   obtain⟨ρ1,b,w1',O1,new,h1,h2,h3⟩:=ih (es:=es.push ⟨.mark .noRoom,false,true⟩) hk hw ht hc hr
   refine⟨ρ1,b,w1',O1,⟨.mark .noRoom,false,true⟩ :: new,by simp only[Sem.runT];rw[h1];simp,h2,?_⟩
   exact Ran.trans (n:=[⟨.mark .noRoom,false,true⟩]) (.still hw ht rfl rfl rfl rfl (fun _ _ _=>rfl) hc fun e he=>.inl (List.mem_singleton.1 he)) h3
end
section
variable[Inhabited aV]
variable{P:Program}{ρ:Ren}
def mG{α:Type}:Ren→α→α→Prop:=fun _ a b=>a=b
theorem YP{α:Type}:tD (mG (α:=α)):=fun _ _ _ _ _ h=>h
theorem Jj{α β:Type}{Q:Ren→α→β→Prop}(why:String)(s':Sem β):SR P Q ρ (stuck why) s':=trivial
theorem yZ{α β:Type}{Q:Ren→α→β→Prop}(u:Unsupported)(s':Sem β)(hu:um (.unsupported u):=by trivial):SR P Q ρ (unsupported u) s':=hu
theorem iT:SR P (fun ρ' a b=>a=P∧b=P) ρ program program:=⟨_,rfl,_,rfl,rfl,rfl⟩
theorem aL(t:TypeId):SR P mG ρ (underlying t) (underlying t):=by
 refine⟨_,rfl,?_⟩
 show SR P mG ρ (match P.underlying t with|some d=>pure d|none=>stuck "no such type") (match P.underlying t with|some d=>pure d|none=>stuck "no such type")
 cases P.underlying t with
 | none=>exact Jj _ _
 | some d=>exact SR.pure rfl
theorem gD(t:TypeId):SR P mG ρ (typeInfo t) (typeInfo t):=by
 refine⟨_,rfl,?_⟩
 show SR P mG ρ (match P.info? t with|some d=>pure d|none=>stuck "no such type") (match P.info? t with|some d=>pure d|none=>stuck "no such type")
 cases P.info? t with
 | none=>exact Jj _ _
 | some d=>exact SR.pure rfl
theorem aX(hi:dL ρ)(t:TypeId):SR P mG ρ (sizeOf t) (sizeOf t):=
 (gD t).bind' hi fun _ _ a b e=>by cases e;exact SR.pure rfl
theorem yS(hi:dL ρ)(t:TypeId):SR P mG ρ (isAgg t) (isAgg t):=
 (aL t).bind' hi fun _ _ a b e=>by
  cases e
  cases a <;> exact SR.pure rfl
def OV(P:Program)(t:TypeId):Prop:=∀i z,P.info? t=some i→i.zero=some z→∀ρ,VR ρ z z
theorem iZ(hi:dL ρ){t:TypeId}(hz:OV P t):SR P VR ρ (zeroValue t) (zeroValue t):=by
 refine⟨_,rfl,?_⟩
 have e:∀ (o:Option TypeInfo),P.info? t=o→SR P VR ρ (Sem.bind (match o with|some d=>pure d|none=>stuck "no such type") fun i=>(match i.zero with|some v=>pure v|none=>unsupported (.resourceLimit Zi):Sem Value))
  (Sem.bind (match o with|some d=>pure d|none=>stuck "no such type") fun i=>(match i.zero with|some v=>pure v|none=>unsupported (.resourceLimit Zi):Sem Value)):=by
  intro o ho
  cases o with
  | none=>exact zT
  | some i=>
    show SR P VR ρ (match i.zero with|some v=>pure v|none=>unsupported (.resourceLimit Zi)) (match i.zero with|some v=>pure v|none=>unsupported (.resourceLimit Zi))
    cases hz0:i.zero with
    | none=>exact yZ _ _
    | some z=>exact SR.pure (hz i z ho hz0 ρ)
 exact e _ rfl
theorem AR.add{a a':Addr}(h:AR ρ a a')(n:Nat):AR ρ (a.add n) (a'.add n):=by
 unfold Addr.add
 split
 ·exact h
 ·exact⟨h.1,by simp[h.2.1],rfl⟩
inductive LR (ρ:Ren):List Value→List Value→Prop
 | nil:LR ρ [] []
 | cons {v v':Value} {l l':List Value}:VR ρ v v'→LR ρ l l'→LR ρ (v :: l) (v' :: l')
theorem LR.mono{ρ':Ren}(l:Le ρ ρ'){x x':List Value}(h:LR ρ x x'):LR ρ' x x':=by
 induction h with
 | nil=>exact .nil
 | cons h _ ih=>exact .cons (h.mono l) ih
theorem LR.of:∀ {l l':List Value},l.length=l'.length→(∀ (i:Nat) (h:i<l.length) (h':i<l'.length),VR ρ l[i] l'[i])→LR ρ l l'
 | [],[],_,_=>.nil
 | v :: l,v' :: l',e,h=>.cons (h 0 zs zs) (LR.of (by simpa using e) fun i a b=>h (i+1) (by simpa using a) (by simpa using b))
 | [],_ :: _,e,_=>by simp at e
 | _ :: _,[],e,_=>by simp at e
theorem dX.list{x x':Array Value}(h:dX ρ x x'):LR ρ x.toList x'.toList:=
 LR.of (by simpa using h.1) fun i a b=>by simpa using h.2 i (by simpa using a) (by simpa using b)
theorem IJ{a a':Addr}(h:AR ρ a a'):SR P VR ρ (load a) (load a'):=⟨_,_,rfl,rfl,h,fun _ _ v v' hv=>⟨v',rfl,hv⟩⟩
theorem QT{a a':Addr}(h:AR ρ a a'){v v':Value}(hv:VR ρ v v'):SR P mG ρ (store a v) (store a' v'):=⟨_,_,_,rfl,rfl,h,hv,(),rfl,rfl⟩
theorem sI{a a':Addr}(n:Nat):∀ {ρ:Ren},dL ρ→AR ρ a a'→∀ (i:Nat) {acc acc':Array Value},dX ρ acc acc'→SR P dX ρ (loadCellsFrom a i n acc) (loadCellsFrom a' i n acc'):=by
 induction n with
 | zero=>exact fun _ _ i _ _ h=>SR.pure h
 | succ n ih=>exact fun hi ha i _ _ h=>(IJ (ha.add i)).bind' hi fun ρ' l v v' hv=>ih l.2 (ha.mono l.1) (i+1) ((h.mono l.1).push hv)
theorem qp(hi:dL ρ){a a':Addr}(ha:AR ρ a a')(n:Nat):SR P dX ρ (loadCells a n) (loadCells a' n):=sI n hi ha 0 (.nil ρ)
theorem ow{a a':Addr}(hi:dL ρ)(ha:AR ρ a a'){l l':List Value}(h:LR ρ l l')(i:Nat:=0):SR P mG ρ (storeCells a l i) (storeCells a' l' i):=by
 induction h generalizing i with
 | nil=>exact SR.pure rfl
 | cons hv _ ih=>exact(QT (ha.add i) hv).bind' hi fun ρ' l _ _ _=>(ih (i+1)).mono YP l.1
theorem vE(hi:dL ρ)(t:TypeId){a a':Addr}(ha:AR ρ a a'):SR P VR ρ (loadVar t a) (loadVar t a'):=by
 unfold loadVar
 refine(yS hi t).bind' hi ?_
 intro ρ1 l1 x y e
 cases e
 cases x with
 | false=>exact IJ (ha.mono l1.1)
 | true=>
   refine(aX l1.2 t).bind' l1.2 ?_
   intro ρ2 l2 m n e
   cases e
   refine(qp l2.2 (ha.mono (l1.1.trans l2.1)) m).bind' l2.2 ?_
   intro ρ3 _ c c' hc
   exact SR.pure (.agg hc.1 hc.2)
theorem FE(hi:dL ρ)(t:TypeId){a a':Addr}(ha:AR ρ a a'){v v':Value}(hv:VR ρ v v'):SR P mG ρ (storeVar t a v) (storeVar t a' v'):=by
 unfold storeVar
 refine(aX hi t).bind' hi ?_
 intro ρ1 l1 m n e
 cases e
 have hc:=(hv.mono l1.1).cells
 by_cases hm:v.cells.size≠m
 ·have hm':v'.cells.size≠m:=by rw[← hc.1];exact hm
  simp only[if_pos hm,if_pos hm']
  exact zT
 ·have hm':¬ v'.cells.size≠m:=by rw[← hc.1];exact hm
  simp only[if_neg hm,if_neg hm']
  exact ow l1.2 (ha.mono l1.1) hc.list
theorem qW(t:TypeId){c c':Array Value}(h:dX ρ c c'):SR P AR ρ (newRow t c) (newRow t c'):=
 ⟨_,_,rfl,.cells t h (fun o h1 h2=>by simp at h2),fun _ _ r r' hr=>⟨_,rfl,hr,rfl,rfl⟩⟩
theorem yD(t:TypeId){v v':Value}(h:VR ρ v v'):SR P AR ρ (newVar t v) (newVar t v'):=qW t h.cells
theorem iA{v v':Value}(h:VR ρ v v'):SR P AR ρ (Instr.sureAddr v) (Instr.sureAddr v'):=by
 cases h with
 | ptr h=>exact SR.pure h
 | _=>exact zT
theorem Lx(hi:dL ρ)(t:TypeId){v v':Value}(h:VR ρ v v'):SR P VR ρ (Instr.loadAt t v) (Instr.loadAt t v'):=
 (iA h).bind' hi fun _ l _ _ ha=>vE l.2 t ha
theorem Jp(hi:dL ρ)(t:TypeId){a a' v v':Value}(h:VR ρ a a')(hv:VR ρ v v'):SR P mG ρ (Instr.storeAt t a v) (Instr.storeAt t a' v'):=
 (iA h).bind' hi fun _ l _ _ ha=>FE l.2 t ha (hv.mono l.1)
theorem OX(hi:dL ρ){t:TypeId}(hz:OV P t){v v':Value}:SR P VR ρ (Instr.alloc t true v) (Instr.alloc t true v'):=
 (iZ hi hz).bind' hi fun ρ1 l1 z z' h=>(yD t h).bind' l1.2 fun _ _ _ _ ha=>SR.pure (.ptr ha)
theorem XT(hi:dL ρ)(t:TypeId){v v':Value}(h:VR ρ v v'):SR P VR ρ (Instr.box t v) (Instr.box t v'):=
 (yD t h).bind' hi fun _ _ _ _ ha=>SR.pure (.ptr ha)
theorem I7(hi:dL ρ)(t:TypeId){c c':Array Value}(h:dX ρ c c')(off:Nat):SR P VR ρ (part t c off) (part t c' off):=by
 unfold part
 refine(yS hi t).bind' hi ?_
 intro ρ1 l1 x y e
 cases e
 cases x with
 | true=>
   refine(aX l1.2 t).bind' l1.2 ?_
   intro ρ2 l2 m n e
   cases e
   have:=(h.mono (l1.1.trans l2.1)).extract off (off+m)
   exact SR.pure (.agg this.1 this.2)
 | false=>
   rcases(h.mono l1.1).get? off with⟨e1,e2⟩|⟨v,v',e1,e2,hv⟩
   ·simp only[e1,e2];exact zT
   ·simp only[e1,e2];exact SR.pure hv
theorem OY{v v':Value}(h:VR ρ v v'):SR P dX ρ (asAgg v) (asAgg v'):=by
 cases h with
 | agg e h=>exact SR.pure ⟨e,h⟩
 | _=>exact zT
theorem PW(hi:dL ρ)(t:TypeId){v v':Value}(h:VR ρ v v')(i:Nat):SR P VR ρ (Instr.field t v i) (Instr.field t v' i):=by
 unfold Instr.field
 refine(aL t).bind' hi ?_
 intro ρ1 l1 x y e
 cases e
 cases x with
 | struct fs=>
   dsimp only
   cases fs[i]? with
   | none=>exact zT
   | some f=>exact(OY (h.mono l1.1)).bind' l1.2 fun _ l2 _ _ hc=>I7 l2.2 f.type hc f.offset
 | _=>exact zT
theorem H9{v v':Value}(h:VR ρ v v')(i:Nat):SR P VR ρ (Instr.extract v i) (Instr.extract v' i):=by
 cases h with
 | tuple e h=>
   rename_i x x'
   simp only[Instr.extract]
   rcases(dX.get? ⟨e,h⟩ i:(x[i]? =none∧x'[i]? =none)∨_) with⟨e1,e2⟩|⟨w,w',e1,e2,hv⟩
   ·simp only[e1,e2];exact zT
   ·simp only[e1,e2];exact SR.pure hv
 | _=>exact zT
theorem xV{f:Array Value→Value × Nat→Array Value}{off:Nat}(hf:∀cs c j,f cs (c,j)=cs.setIfInBounds (off+j) c):∀ {l l':List Value},LR ρ l l'→∀ (k:Nat) {c c':Array Value},dX ρ c c'→dX ρ ((l.zipIdx k).foldl f c) ((l'.zipIdx k).foldl f c'):=by
 intro l l' h
 induction h with
 | nil=>exact fun _ _ _ h=>h
 | cons hv _ ih=>
   intro k c c' hc
   simp only[List.zipIdx_cons,List.foldl_cons,hf]
   exact ih (k+1) (hc.set _ hv)
inductive jR (ρ:Ren):List (Nat × Value)→List (Nat × Value)→Prop
 | nil:jR ρ [] []
 | cons (i:Nat) {v v':Value} {l l':List (Nat × Value)}:VR ρ v v'→jR ρ l l'→jR ρ ((i,v) :: l) ((i,v') :: l')
theorem xQ(place:Nat→Option (Nat × Nat)):∀ {l l':List (Nat × Value)},jR ρ l l'→∀ {c c':Array Value},dX ρ c c'→
 (Instr.fill place c l=none∧Instr.fill place c' l'=none)∨∃x x',Instr.fill place c l=some x∧Instr.fill place c' l'=some x'∧dX ρ x x':=by
 intro l l' h
 induction h with
 | nil=>exact fun hc=>.inr ⟨_,_,rfl,rfl,hc⟩
 | cons i hv _ ih=>
   rename_i v v' l l' _
   intro c c' hc
   unfold Instr.fill
   cases place i with
   | none=>exact .inl ⟨rfl,rfl⟩
   | some p=>
     obtain⟨off,size⟩:=p
     have hcv:=hv.cells
     dsimp only
     rw[← hcv.1,← hc.1]
     cases (decide (v.cells.size≠size) || decide (off+v.cells.size > c.size)) with
     | true=>exact .inl ⟨rfl,rfl⟩
     | false=>
       refine ih ?_
       have:=xV (ρ:=ρ) (f:=fun cs x=>cs.setIfInBounds (off+x.2) x.1) (off:=off) (fun _ _ _=>rfl) hcv.list 0 hc
       rw[← Array.foldl_toList,← Array.foldl_toList,Array.toList_zipIdx,Array.toList_zipIdx]
       exact this
theorem LB{α β:Type}(f:α→Sem β)(hf:∀a {ρ:Ren},dL ρ→SR P mG ρ (f a) (f a)):∀l:List α,∀ {ρ:Ren},dL ρ→SR P mG ρ (l.mapM f) (l.mapM f):=by
 intro l
 induction l with
 | nil=>intro ρ hi;simp only[List.mapM_nil];exact SR.pure rfl
 | cons a l ih=>
   intro ρ hi
   simp only[List.mapM_cons]
   refine(hf a hi).bind' hi ?_
   intro ρ1 l1 x y e
   cases e
   refine(ih l1.2).bind' l1.2 ?_
   intro ρ2 l2 x y e
   cases e
   exact SR.pure rfl
theorem Qj{α β:Type}(f:α→Sem β)(hf:∀a {ρ:Ren},dL ρ→SR P mG ρ (f a) (f a))(xs:Array α)(hi:dL ρ):SR P mG ρ (xs.mapM f) (xs.mapM f):=by
 rw[Array.mapM_eq_mapM_toList]
 have e:∀ (s:Sem (List β)),(Functor.map List.toArray s)=(s >>= fun l=>pure l.toArray):=fun s=>rfl
 rw[e]
 refine(LB f hf xs.toList hi).bind' hi ?_
 intro ρ1 l1 x y e
 cases e
 exact SR.pure rfl
theorem Pj(hi:dL ρ){t:TypeId}(hz:OV P t){l l':Array (Nat × Value)}(h:jR ρ l.toList l'.toList)(hm:∀ {ρ'},Le ρ ρ'→jR ρ' l.toList l'.toList):SR P VR ρ (Instr.build t l) (Instr.build t l'):=by
 unfold Instr.build
 refine(iZ hi hz).bind' hi ?_
 intro ρ1 l1 z z' hzz
 refine(aL t).bind' l1.2 ?_
 intro ρ2 l2 d d' e
 cases e
 cases d with
 | struct fs=>
   dsimp only
   refine(Qj _ (fun f {ρ'} hi'=>(aX hi' f.type).bind' hi' fun _ _ _ _ e=>by cases e;exact SR.pure rfl) fs l2.2).bind' l2.2 ?_
   intro ρ3 l3 p p' e
   cases e
   rcases xQ (ρ:=ρ3) (p[·]?) (hm (l1.1.trans (l2.1.trans l3.1))) (hzz.mono (l2.1.trans l3.1)).cells with⟨e1,e2⟩|⟨x,x',e1,e2,hx⟩
   ·simp only[e1,e2];exact zT
   ·simp only[e1,e2];exact SR.pure (.agg hx.1 hx.2)
 | array n el=>
   dsimp only
   refine(aX l2.2 el).bind' l2.2 ?_
   intro ρ3 l3 p p' e
   cases e
   rcases xQ (ρ:=ρ3) (fun i=>some (i * p,p)) (hm (l1.1.trans (l2.1.trans l3.1))) (hzz.mono (l2.1.trans l3.1)).cells with⟨e1,e2⟩|⟨x,x',e1,e2,hx⟩
   ·simp only[e1,e2];exact zT
   ·simp only[e1,e2];exact SR.pure (.agg hx.1 hx.2)
 | _=>exact zT
def tE{α β:Type}:Ren→Option α→Option β→Prop:=fun _ a b=>a=none∧b=none
theorem ou{r r':Nat}(h:ρ r=some r'):SR P mG ρ (shape r) (shape r'):=⟨_,_,rfl,h,fun x=>⟨x,rfl,rfl⟩⟩
theorem jN{r r':Nat}(h:ρ r=some r'):SR P OR ρ (getObj r) (getObj r'):=⟨_,_,rfl,h,fun _ _ o o' ho=>⟨o',rfl,ho⟩⟩
theorem oZ{r r':Nat}(h:ρ r=some r'){o o':Obj}(ho:OR ρ o o'):SR P mG ρ (setObj r o) (setObj r' o'):=⟨_,_,_,rfl,h,ho,(),rfl,rfl⟩
theorem oL(q:Question):SR P mG ρ (choose q) (choose q):=⟨_,rfl,fun n=>⟨n,rfl,rfl⟩⟩
theorem Av(hi:dL ρ){r r':Nat}(h:ρ r=some r'):SR P tE ρ (viewAt r) (viewAt r'):=by
 unfold viewAt
 refine(ou h).bind' hi ?_
 intro ρ1 l1 x y e
 cases e
 cases x with
 | some x=>exact SR.pure ⟨rfl,rfl⟩
 | none=>
   refine(jN (l1.1 _ _ h)).bind' l1.2 ?_
   intro ρ2 l2 o o' ho
   cases ho <;> exact SR.pure ⟨rfl,rfl⟩
theorem LP(hi:dL ρ){a a':Addr}(h:AR ρ a a'):SR P mG ρ (noView a) (noView a'):=by
 unfold noView
 refine(Av hi h.1).bind' hi ?_
 rintro ρ1 l1 x y ⟨rfl,rfl⟩
 exact SR.pure rfl
def On:Ren→Option (Addr × Bool)→Option (Addr × Bool)→Prop:=fun ρ x y=>(x=none∧y=none)∨∃a a' l,x=some (a,l)∧y=some (a',l)∧AR ρ a a'
theorem sQ(hi:dL ρ){r r':Nat}(h:ρ r=some r'):SR P On ρ (numberAt r) (numberAt r'):=by
 unfold numberAt
 refine(ou h).bind' hi ?_
 intro ρ1 l1 x y e
 cases e
 cases x with
 | some x=>exact SR.pure (.inl ⟨rfl,rfl⟩)
 | none=>
   refine(jN (l1.1 _ _ h)).bind' l1.2 ?_
   intro ρ2 l2 o o' ho
   cases ho with
   | cells e h f=>exact SR.pure (.inl ⟨rfl,rfl⟩)
   | map k h=>exact SR.pure (.inl ⟨rfl,rfl⟩)
   | number l h=>exact SR.pure (.inr ⟨_,_,_,rfl,rfl,h⟩)
   | loop h=>exact SR.pure (.inl ⟨rfl,rfl⟩)
   | defs h=>exact SR.pure (.inl ⟨rfl,rfl⟩)
def AbR:Ren→Addr × Bool→Addr × Bool→Prop:=fun ρ x y=>AR ρ x.1 y.1∧x.2=y.2
theorem aZ(hi:dL ρ){a a':Addr}(h:AR ρ a a'):SR P AbR ρ (behindNumber a) (behindNumber a'):=by
 unfold behindNumber
 refine(sQ hi h.1).bind' hi ?_
 rintro ρ1 l1 x y (⟨rfl,rfl⟩|⟨b,b',l,rfl,rfl,hb⟩)
 ·exact SR.pure ⟨h.mono l1.1,rfl⟩
 ·exact SR.pure ⟨hb,rfl⟩
theorem Eu{a a':Addr}(h:AR ρ a a')(l:Bool)(hi:dL ρ):SR P VR ρ (asNumber a l) (asNumber a' l):=by
 unfold asNumber
 have:SR P (fun ρ r r'=>ρ r=some r') ρ (newObj (.number a l)) (newObj (.number a' l)):=⟨_,_,rfl,.number l h,fun _ _ r r' hr=>⟨r',rfl,hr⟩⟩
 refine this.bind' hi ?_
 intro ρ1 l1 r r' hr
 exact SR.pure (.ptr ⟨hr,rfl,rfl⟩)
theorem qM(hi:dL ρ){a a':Addr}(h:AR ρ a a'):SR P mG ρ (byteOf a) (byteOf a'):=by
 unfold byteOf
 rw[h.2.2,h.2.1]
 cases a.spot with
 | some s=>exact SR.pure rfl
 | none=>
   dsimp only
   refine iT.bind' hi ?_
   rintro ρ1 l1 p p' ⟨rfl,rfl⟩
   refine(LP l1.2 (h.mono l1.1)).bind' l1.2 ?_
   intro ρ2 l2 _ _ _
   refine(ou (l2.1 _ _ (l1.1 _ _ h.1))).bind' l2.2 ?_
   intro ρ3 l3 x y e
   cases e
   cases x with
   | none=>exact zT
   | some x=>
     obtain⟨e,n⟩:=x
     dsimp only
     by_cases hs:p'.cellsOf e=0
     ·simp only[if_pos hs];exact SR.pure rfl
     ·simp only[if_neg hs]
      cases byteOfCell p' p'.depth e (a.off % p'.cellsOf e) with
      | none=>exact zT
      | some b=>exact SR.pure rfl
theorem Mc(hi:dL ρ){a a':Addr}(h:AR ρ a a')(cells bytes:Nat):SR P AR ρ (partAt a cells bytes) (partAt a' cells bytes):=by
 unfold partAt
 refine(qM hi h).bind' hi ?_
 intro ρ1 l1 b b' e
 cases e
 have hp:AR ρ1 {block:=a.block,off:=a.off+cells } {block:=a'.block,off:=a'.off+cells }:=⟨l1.1 _ _ h.1,by simp[h.2.1],rfl⟩
 refine(qM l1.2 hp).bind' l1.2 ?_
 intro ρ2 l2 c c' e
 cases e
 have hp2:=hp.mono l2.1
 dsimp only
 split
 ·exact SR.pure hp2
 ·exact SR.pure ⟨hp2.1,hp2.2.1,rfl⟩
theorem xP(hi:dL ρ){a a':Addr}(h:AR ρ a a')(f:Field):SR P AR ρ (fieldPlace a f) (fieldPlace a' f):=by
 unfold fieldPlace
 refine(aX hi f.type).bind' hi ?_
 intro ρ1 l1 n m e
 cases e
 split
 ·exact Mc l1.2 (h.mono l1.1) _ _
 ·exact SR.pure ((h.mono l1.1).add _)
theorem Ib(hi:dL ρ)(t:TypeId){v v':Value}(h:VR ρ v v')(i:Nat):SR P VR ρ (Instr.fieldAt t v i) (Instr.fieldAt t v' i):=by
 unfold Instr.fieldAt
 refine(aL t).bind' hi ?_
 intro ρ1 l1 x y e
 cases e
 cases x with
 | struct fs=>
   dsimp only
   cases fs[i]? with
   | none=>exact zT
   | some f=>
     dsimp only
     refine(iA (h.mono l1.1)).bind' l1.2 ?_
     intro ρ2 l2 a a' ha
     refine(xP l2.2 ha f).bind' l2.2 ?_
     intro ρ3 l3 b b' hb
     exact SR.pure (.ptr hb)
 | _=>exact zT
theorem kL{v v':Value}(h:VR ρ v v'):SR P mG ρ (asIntOf v) (asIntOf v'):=by
 cases h <;> first|exact SR.pure rfl|exact zT
theorem CF(hi:dL ρ){v v':Value}(h:VR ρ v v'):SR P mG ρ (asInt v) (asInt v'):=
 (kL h).bind' hi fun _ _ _ _ e=>by cases e;exact SR.pure rfl
theorem Kn{v v':Value}(h:VR ρ v v'):SR P mG ρ (asBool v) (asBool v'):=by
 cases h <;> first|exact SR.pure rfl|exact zT
theorem aR{α β:Type}{Q:Ren→α→β→Prop}{e:RuntimeError}(he:∀a b c d,e≠.typeAssertion a b c d)(hp:e≠.panicNil):SR P Q ρ (runtimePanic e) (runtimePanic e):=by
 refine⟨_,rfl,?_⟩
 cases e <;> first|exact zT|exact absurd rfl (he _ _ _ _)|exact absurd rfl hp
theorem fB{α β:Type}{Q:Ren→α→β→Prop}(hi:dL ρ)(k:IntKind)(x y:Int)(c:BoundsCode):SR P Q ρ (boundsPanic k x y c) (boundsPanic k x y c):=by
 unfold boundsPanic
 dsimp only
 split
 ·refine SR.bind' (Q:=mG) hi ⟨_,rfl,fun n=>⟨_,rfl,rfl⟩⟩ ?_
  intro ρ1 l1 a b e
  cases e
  exact aR zs zs
 ·exact aR (e:=.bounds _ _ _ _) zs zs
def ER(t:TypeId)(k:IntKind)(n:Int)(x:Option Addr × Nat × TypeId):Sem Value:=do
 let d ← underlying t
 match x.1 with
 | some a=>
   if 0≤n∧n<x.2.1 then do
    let m ← sizeOf x.2.2
    pure (.pointer (some (a.add (n.toNat * m))))
   else if (decide (x.2.1≤1) && match d with| .array ..=>true|_=>false)=true then unsupported (.noEntry YY)
   else boundsPanic k n x.2.1 .index
 | none=>boundsPanic k n 0 .index
def Gn(ρ:Ren)(x y:Option Addr):Prop:=(x=none∧y=none)∨∃a a',x=some a∧y=some a'∧AR ρ a a'
theorem Gn.mono{ρ':Ren}(l:Le ρ ρ'){x y:Option Addr}(h:Gn ρ x y):Gn ρ' x y:=by
 rcases h with h|⟨a,a',e1,e2,h⟩
 ·exact .inl h
 ·exact .inr ⟨a,a',e1,e2,h.mono l⟩
theorem nW(hi:dL ρ)(t:TypeId)(k:IntKind)(n:Int){b b':Option Addr}(h:Gn ρ b b')(len:Nat)(e:TypeId):SR P VR ρ (ER t k n (b,len,e)) (ER t k n (b',len,e)):=by
 unfold ER
 refine(aL t).bind' hi ?_
 intro ρ1 l1 d d' ed
 cases ed
 rcases h with⟨rfl,rfl⟩|⟨a,a',rfl,rfl,ha⟩
 ·exact fB l1.2 _ _ _ _
 ·dsimp only
  by_cases hc:0≤n∧n<len
  ·rw[if_pos hc,if_pos hc]
   refine(aX l1.2 e).bind' l1.2 ?_
   intro ρ4 l4 m m' e
   cases e
   exact SR.pure (.ptr ((ha.mono (l1.1.trans l4.1)).add _))
  ·rw[if_neg hc,if_neg hc]
   cases (decide (len≤1) && match d with| .array ..=>true|_=>false) with
   | true=>exact zT
   | false=>exact fB l1.2 _ _ _ _
theorem Iw(hi:dL ρ)(t:TypeId){x x' i i':Value}(hx:VR ρ x x')(h:VR ρ i i'):SR P VR ρ (Instr.indexAt t x i) (Instr.indexAt t x' i'):=by
 unfold Instr.indexAt
 refine(kL h).bind' hi ?_
 intro ρ1 l1 p p' e
 cases e
 obtain⟨k,n⟩:=p
 dsimp only
 refine(aL t).bind' l1.2 ?_
 intro ρ2 l2 d d' e
 cases e
 have hx2:=hx.mono (l1.1.trans l2.1)
 cases d with
 | array len e=>
   refine(iA hx2).bind' l2.2 ?_
   intro ρ3 l3 a a' ha
   exact nW l3.2 t k n (.inr ⟨a,a',rfl,rfl,ha⟩) len e
 | slice e=>
   cases hx2 with
   | yU l c=>exact nW l2.2 t k n (.inl ⟨rfl,rfl⟩) l e
   | sl l c ha=>exact nW l2.2 t k n (.inr ⟨_,_,rfl,rfl,ha⟩) l e
   | _=>exact zT
 | _=>exact zT
theorem Qa(hi:dL ρ)(t:TypeId){x x' i i':Value}(hx:VR ρ x x')(h:VR ρ i i'):SR P VR ρ (Instr.index t x i) (Instr.index t x' i'):=by
 unfold Instr.index
 refine(kL h).bind' hi ?_
 intro ρ1 l1 p p' e
 cases e
 obtain⟨k,n⟩:=p
 dsimp only
 refine(aL t).bind' l1.2 ?_
 intro ρ2 l2 d d' e
 cases e
 have hx2:=hx.mono (l1.1.trans l2.1)
 cases d with
 | array len e=>
   cases hx2 with
   | agg es hs=>
     dsimp only
     by_cases hc:0≤n∧n<len
     ·rw[if_pos hc,if_pos hc]
      refine(aX l2.2 e).bind' l2.2 ?_
      intro ρ4 l4 m m' em
      cases em
      exact I7 l4.2 e (dX.mono l4.1 ⟨es,hs⟩) _
     ·rw[if_neg hc,if_neg hc]
      exact fB l2.2 _ _ _ _
   | _=>exact zT
 | string=>
   cases hx2 with
   | string s=>
     dsimp only
     cases (if 0≤n then s[n.toNat]? else none) with
     | none=>exact fB l2.2 _ _ _ _
     | some b=>exact SR.pure (.int _ _)
   | _=>exact zT
 | _=>exact zT
theorem fU(hi:dL ρ){v v':Value}(h:VR ρ v v')(y:Nat)(c:BoundsCode):SR P mG ρ (Instr.sliceBound v y c) (Instr.sliceBound v' y c):=by
 unfold Instr.sliceBound
 refine(kL h).bind' hi ?_
 intro ρ1 l1 p p' e
 cases e
 obtain⟨k,n⟩:=p
 dsimp only
 split
 ·exact SR.pure rfl
 ·exact fB l1.2 _ _ _ _
def qJ(ρ:Ren)(x y:Option Value):Prop:=(x=none∧y=none)∨∃a a',x=some a∧y=some a'∧VR ρ a a'
theorem qJ.mono{ρ':Ren}(l:Le ρ ρ'){x y:Option Value}(h:qJ ρ x y):qJ ρ' x y:=by
 rcases h with h|⟨a,a',e1,e2,h⟩
 ·exact .inl h
 ·exact .inr ⟨a,a',e1,e2,h.mono l⟩
theorem cV(hi:dL ρ){x y:Option Value}(h:qJ ρ x y)(len:Nat)(c:BoundsCode)(d:Nat):
 SR P mG ρ (match x with|some v=>Instr.sliceBound v len c|none=>pure d) (match y with|some v=>Instr.sliceBound v len c|none=>pure d):=by
 rcases h with⟨rfl,rfl⟩|⟨a,a',rfl,rfl,ha⟩
 ·exact SR.pure rfl
 ·exact fU hi ha _ _
theorem SR.aO{α γ δ:Type}{R:Ren→γ→δ→Prop}{s s':Sem α}{f:α→Sem γ}{f':α→Sem δ}(hi:dL ρ)(h:SR P mG ρ s s')(hf:∀ρ',Ext ρ ρ'→∀a,SR P R ρ' (f a) (f' a)):SR P R ρ (s >>= f) (s' >>= f'):=
 h.bind' hi fun ρ' l a b e=>by cases e;exact hf ρ' l a
def AS(x:Option Value)(h m:Nat)(c:BoundsCode):Sem (Nat × Nat × Nat):=match x with|some v=>(do let l ← Instr.sliceBound v h c;pure (l,h,m))|none=>(do let l ← pure 0;pure (l,h,m))
theorem Fa(hi:dL ρ){x x':Option Value}(hx:qJ ρ x x')(h m:Nat)(c:BoundsCode):SR P mG ρ (AS x h m c) (AS x' h m c):=by
 rcases hx with⟨rfl,rfl⟩|⟨v,v',rfl,rfl,hv⟩
 ·exact SR.pure rfl
 ·exact(fU hi hv _ _).aO hi fun _ _ _=>SR.pure rfl
theorem fD(hi:dL ρ)(s:Bool)(len cap:Nat){x x' y y' z z':Option Value}(hx:qJ ρ x x')(hy:qJ ρ y y')(hz:qJ ρ z z'):SR P mG ρ (Instr.sliceBounds s len cap x y z) (Instr.sliceBounds s len cap x' y' z'):=by
 unfold Instr.sliceBounds
 dsimp only
 rcases hz with⟨rfl,rfl⟩|⟨vz,vz',rfl,rfl,hvz⟩
 ·dsimp only
  refine SR.aO hi (SR.pure rfl) fun ρ1 l1 m=>?_
  rcases hy with⟨rfl,rfl⟩|⟨vy,vy',rfl,rfl,TZ⟩
  ·dsimp only
   exact SR.aO l1.2 (SR.pure rfl) fun ρ2 l2 h=>Fa l2.2 (hx.mono (l1.1.trans l2.1)) _ _ _
  ·dsimp only
   exact SR.aO l1.2 (fU l1.2 (TZ.mono l1.1) _ _) fun ρ2 l2 h=>Fa l2.2 (hx.mono (l1.1.trans l2.1)) _ _ _
 ·dsimp only
  refine SR.aO hi (fU hi hvz _ _) fun ρ1 l1 m=>?_
  rcases hy with⟨rfl,rfl⟩|⟨vy,vy',rfl,rfl,TZ⟩
  ·exact zT
  ·dsimp only
   exact SR.aO l1.2 (fU l1.2 (TZ.mono l1.1) _ _) fun ρ2 l2 h=>Fa l2.2 (hx.mono (l1.1.trans l2.1)) _ _ _
theorem xB{v v':Value}(h:VR ρ v v'):SR P AR ρ (asAddr v) (asAddr v'):=by
 cases h with
 | ptr h=>exact SR.pure h
 | yL=>exact aR (e:=.nilDeref) zs zs
 | _=>exact zT
theorem QL(hi:dL ρ)(t:TypeId){v v':Value}(hv:VR ρ v v'){x x' y y' z z':Option Value}(hx:qJ ρ x x')(hy:qJ ρ y y')(hz:qJ ρ z z'):SR P VR ρ (Instr.slice t v x y z) (Instr.slice t v' x' y' z'):=by
 unfold Instr.slice
 refine(aL t).aO hi fun ρ1 l1 d=>?_
 have hv1:=hv.mono l1.1
 have hx1:=hx.mono l1.1
 have hy1:=hy.mono l1.1
 have hz1:=hz.mono l1.1
 cases d with
 | string=>
   cases hv1 with
   | string s=>
     dsimp only
     rcases hz1 with⟨rfl,rfl⟩|⟨vz,vz',rfl,rfl,hvz⟩
     ·exact(fD l1.2 false s.size s.size hx1 hy1 (.inl ⟨rfl,rfl⟩)).aO l1.2 fun _ _ p=>SR.pure (.string _)
     ·exact zT
   | _=>exact zT
 | slice e=>
   cases hv1 with
   | yU len cap=>
     refine(fD l1.2 true len cap hx1 hy1 hz1).aO l1.2 fun ρ2 l2 p=>?_
     refine(aX l2.2 e).aO l2.2 fun ρ3 l3 m=>?_
     refine SR.pure ?_
     simp only[Option.map_none,ite_self]
     exact .yU _ _
   | sl len cap ha=>
     refine(fD l1.2 true len cap hx1 hy1 hz1).aO l1.2 fun ρ2 l2 p=>?_
     refine(aX l2.2 e).aO l2.2 fun ρ3 l3 m=>?_
     refine SR.pure ?_
     have dv:=ha.mono (l2.1.trans l3.1)
     split
     ·exact .sl _ _ dv
     ·exact .sl _ _ (dv.add _)
   | _=>exact zT
 | pointer arr=>
   refine(xB hv1).bind' l1.2 fun ρ2 l2 a a' ha=>?_
   refine(aL arr).aO l2.2 fun ρ3 l3 d=>?_
   cases d with
   | array n e=>
     refine(fD l3.2 false n n (hx1.mono (l2.1.trans l3.1)) (hy1.mono (l2.1.trans l3.1)) (hz1.mono (l2.1.trans l3.1))).aO l3.2 fun ρ4 l4 p=>?_
     refine(aX l4.2 e).aO l4.2 fun ρ5 l5 m=>?_
     refine SR.pure ?_
     have dv:=ha.mono (l3.1.trans (l4.1.trans l5.1))
     split
     ·exact .sl _ _ dv
     ·exact .sl _ _ (dv.add _)
   | _=>exact zT
 | _=>exact zT
theorem Jf(hi:dL ρ)(t:TypeId){v v':Value}(hv:VR ρ v v'){x x' y y' z z':Option Value}(hx:qJ ρ x x')(hy:qJ ρ y y')(hz:qJ ρ z z'):SR P VR ρ (Instr.sliceAt t v x y z) (Instr.sliceAt t v' x' y' z'):=by
 unfold Instr.sliceAt
 refine(aL t).aO hi fun ρ1 l1 d=>?_
 have hv1:=hv.mono l1.1
 have hx1:=hx.mono l1.1
 have hy1:=hy.mono l1.1
 have hz1:=hz.mono l1.1
 cases d with
 | array n e=>
   refine(iA hv1).bind' l1.2 fun ρ2 l2 a a' ha=>?_
   refine(fD l2.2 false n n (hx1.mono l2.1) (hy1.mono l2.1) (hz1.mono l2.1)).aO l2.2 fun ρ4 l4 p=>?_
   refine(aX l4.2 e).aO l4.2 fun ρ5 l5 m=>?_
   refine SR.pure ?_
   have dv:=ha.mono (l4.1.trans l5.1)
   split
   ·exact .sl _ _ dv
   ·exact .sl _ _ (dv.add _)
 | _=>exact QL l1.2 t hv1 hx1 hy1 hz1
theorem Lj(op:BinOp)(k:IntKind)(x y:Int):SR P VR ρ (Op.intDiv op k x y) (Op.intDiv op k x y):=by
 unfold Op.intDiv
 split
 ·exact aR (e:=.error _) zs zs
 ·split
  ·exact SR.pure (.int _ _)
  ·exact SR.pure (.int _ _)
  ·exact zT
theorem QK(op:BinOp)(k yk:IntKind)(x y:Int):SR P VR ρ (Op.shift op k x yk y) (Op.shift op k x yk y):=by
 unfold Op.shift
 split
 ·exact aR (e:=.error _) zs zs
 ·dsimp only
  split
  ·exact SR.pure (.int _ _)
  ·exact SR.pure (.int _ _)
  ·exact zT
theorem Li(op:BinOp)(x y:Int):SR P VR ρ (Op.intCmp op x y) (Op.intCmp op x y):=by
 unfold Op.intCmp
 split <;> first|exact SR.pure (.bool _)|exact zT
theorem ET(op:BinOp)(k:IntKind)(x y:Int):SR P VR ρ (Op.intArith op k x y) (Op.intArith op k x y):=by
 unfold Op.intArith
 split <;> first|exact SR.pure (.int _ _)|exact zT
theorem Iy(op:BinOp)(k:IntKind)(x y:Int):SR P VR ρ (Op.intBits op k x y) (Op.intBits op k x y):=by
 unfold Op.intBits
 dsimp only
 split <;> first|exact SR.pure (.int _ _)|exact zT
theorem vZ(hi:dL ρ)(op:BinOp)(k:FloatKind)(x y:Nat):SR P VR ρ (Op.floatArith op k x y) (Op.floatArith op k x y):=by
 unfold Op.floatArith
 have tail:∀ {ρ':Ren} (r:Option Nat),SR P VR ρ' (match r with|some r=>pure (.float k r)|none=>do pure (.float k (← choose (.nanBits k x y))):Sem Value) (match r with|some r=>pure (.float k r)|none=>do pure (.float k (← choose (.nanBits k x y))):Sem Value):=by
  intro ρ' r
  cases r with
  | some r=>exact SR.pure (.float _ _)
  | none=>exact⟨_,rfl,fun n=>⟨_,rfl,.float _ _⟩⟩
 cases op <;> first|exact zT|exact tail _
theorem Bw(op:BinOp)(k:FloatKind)(x y:Nat):SR P VR ρ (Op.floatCmp op k x y) (Op.floatCmp op k x y):=by
 unfold Op.floatCmp
 cases op <;> first|exact zT|exact SR.pure (.bool _)
theorem lF(op:BinOp)(x y:ByteArray):SR P VR ρ (Op.stringOp op x y) (Op.stringOp op x y):=by
 unfold Op.stringOp
 cases op <;> dsimp only <;> first|exact zT|exact SR.pure (.bool _)|(split <;> first|exact zT|exact SR.pure (.string _))
def Cl{α:Type}(P:Program)(s:Sem α):Prop:=∀ {ρ:Ren},dL ρ→SR P mG ρ s s
theorem Cl.pure{α:Type}(a:α):Cl P (Pure.pure a:Sem α):=fun _=>SR.pure rfl
theorem Cl.bind{α β:Type}{s:Sem α}{f:α→Sem β}(h:Cl P s)(hf:∀a,Cl P (f a)):Cl P (s >>= f):=fun hi=>(h hi).aO hi fun _ l a=>hf a l.2
theorem Cl.stuck{α:Type}(w:String):Cl P (Go.stuck w:Sem α):=fun _=>trivial
theorem Cl.choose(q:Question):Cl P (Go.choose q):=fun _=>oL q
theorem Cl.ite{α:Type}{c:Prop}[Decidable c]{s t:Sem α}(h:Cl P s)(k:Cl P t):Cl P (if c then s else t):=by split <;> assumption
theorem Bt(op:BinOp)(k:FloatKind)(x y:Nat):Cl P (Op.floatArith op k x y):=by
 unfold Op.floatArith
 have tail:∀ (r:Option Nat),Cl P (match r with|some r=>Pure.pure (.float k r)|none=>do Pure.pure (.float k (← Go.choose (.nanBits k x y))):Sem Value):=by
  intro r
  cases r with
  | some r=>exact Cl.pure _
  | none=>exact Cl.bind (Cl.choose _) fun _=>Cl.pure _
 cases op <;> first|exact(fun{_} _=>trivial)|exact(fun{_} hi=>tail _ hi)
theorem GY(op:BinOp)(k:FloatKind)(x y:Nat):Cl P (Op.floatCmp op k x y):=by
 unfold Op.floatCmp
 cases op <;> first|exact(fun{_} _=>trivial)|exact Cl.pure _
theorem jj(s:FloatKind)(x:Nat)(d:FloatKind):Cl P (Conv.floatToFloat s x d):=by
 unfold Conv.floatToFloat
 split
 ·exact Cl.pure _
 ·split
  ·exact Cl.bind (Cl.choose _) fun _=>Cl.pure _
  ·exact Cl.pure _
  ·dsimp only
   split
   ·exact Cl.bind (Cl.choose _) fun _=>Cl.pure _
   ·exact Cl.pure _
theorem rW(op:BinOp)(k:FloatKind)(x y:Nat):Cl P (Op.Complex.arith op k x y):=by
 unfold Op.Complex.arith
 refine Cl.bind (Bt _ _ _ _) fun v=>?_
 cases v <;> first|exact Cl.pure _|exact(fun{_} _=>trivial)
theorem KC(op:BinOp)(k:FloatKind)(x y:Nat):Cl P (Op.Complex.cmp op k x y):=by
 unfold Op.Complex.cmp
 refine Cl.bind (GY _ _ _ _) fun v=>?_
 cases v <;> first|exact Cl.pure _|exact(fun{_} _=>trivial)
theorem Ya(s:FloatKind)(x:Nat)(d:FloatKind):Cl P (Op.Complex.conv s x d):=by
 unfold Op.Complex.conv
 split
 ·exact Cl.pure _
 ·refine Cl.bind (jj _ _ _) fun v=>?_
  cases v <;> first|exact Cl.pure _|exact(fun{_} _=>trivial)
theorem KD(a b c d:Nat):Cl P (Op.Complex.product a b c d):=by
 unfold Op.Complex.product
 repeat first|exact Cl.pure _|refine Cl.bind (rW _ _ _ _) fun _=>?_
theorem EB(s a b c d:Nat):Cl P (Op.Complex.corrected s a b c d):=by
 unfold Op.Complex.corrected
 repeat first|exact Cl.pure _|refine Cl.bind (rW _ _ _ _) fun _=>?_
theorem GZ(a b c d:Nat):Cl P (Op.Complex.quotient a b c d):=by
 unfold Op.Complex.quotient
 dsimp only
 refine Cl.bind (KC _ _ _ _) fun x=>?_
 repeat' first
  | (with_reducible exact Cl.pure _)
  | (with_reducible exact EB _ _ _ _ _)
  | (with_reducible refine Cl.bind (rW _ _ _ _) fun _=>?_)
  | (with_reducible refine Cl.bind (KC _ _ _ _) fun _=>?_)
  | (with_reducible refine Cl.bind (Cl.pure _) fun _=>?_)
  | (with_reducible refine Cl.ite ?_ ?_)
  | split
  | dsimp only
def wR(P:Program)(t:TypeId):Bool:=match P.info? t with
 | some i=>(match i.desc with| .named "sync.copyChecker" _=>false|_=>true)
 | none=>true
theorem iy{α β:Type}{R:Ren→α→β→Prop}{t:TypeId}{f:TypeDesc→Sem α}{f':TypeDesc→Sem β}(hR:∀d,P.underlying t=some d→SR P R ρ (f d) (f' d)):SR P R ρ (underlying t >>= f) (underlying t >>= f'):=by
 refine⟨_,rfl,?_⟩
 have e:∀o,P.underlying t=o→SR P R ρ (Sem.bind (match o with|some d=>pure d|none=>stuck "no such type") f) (Sem.bind (match o with|some d=>pure d|none=>stuck "no such type") f'):=by
  intro o ho
  cases o with
  | none=>exact zT
  | some d=>exact hR d ho
 exact e _ rfl
theorem ZG{α β:Type}{R:Ren→α→β→Prop}{t:TypeId}{f:TypeInfo→Sem α}{f':TypeInfo→Sem β}(hR:∀d,P.info? t=some d→SR P R ρ (f d) (f' d)):SR P R ρ (typeInfo t >>= f) (typeInfo t >>= f'):=by
 refine⟨_,rfl,?_⟩
 have e:∀o,P.info? t=o→SR P R ρ (Sem.bind (match o with|some d=>pure d|none=>stuck "no such type") f) (Sem.bind (match o with|some d=>pure d|none=>stuck "no such type") f'):=by
  intro o ho
  cases o with
  | none=>exact zT
  | some d=>exact hR d ho
 exact e _ rfl
theorem yj(op:BinOp)(t:TypeId)(k k':IntKind)(a b:Int):SR P VR ρ (binOp op t (.int k a) (.int k' b)) (binOp op t (.int k a) (.int k' b)):=by
 cases op <;> (unfold binOp;dsimp only) <;> first
  | exact QK _ _ _ _ _
  | (split <;> first|exact zT|exact ET _ _ _ _|exact Lj _ _ _ _|exact Iy _ _ _ _|exact Li _ _ _)
theorem qP(hi:dL ρ)(op:BinOp)(t:TypeId)(k k':FloatKind)(a b:Nat):SR P VR ρ (binOp op t (.float k a) (.float k' b)) (binOp op t (.float k a) (.float k' b)):=by
 cases op <;> (unfold binOp;dsimp only) <;> first
  | exact zT
  | (split <;> first|exact zT|exact vZ hi _ _ _ _|exact Bw _ _ _ _)
def bI:BinOp→Bool
 | .eql| .neq=>false
 | _=>true
def Cn(P:Program)(s:Sem Value):Prop:=∀ρ:Ren,dL ρ→SR P VR ρ s s
theorem Cn.bind{α:Type}{s:Sem α}{f:α→Sem Value}(h:Cl P s)(hf:∀a,Cn P (f a)):Cn P (s >>= f):=fun _ hi=>(h hi).aO hi fun _ l a=>hf a _ l.2
theorem Cn.ite{c:Prop}[Decidable c]{s t:Sem Value}(h:Cn P s)(k:Cn P t):Cn P (if c then s else t):=by split <;> assumption
theorem Cn.complex(k:FloatKind)(a b:Nat):Cn P (Pure.pure (.complex k a b):Sem Value):=fun _ _=>SR.pure (.complex _ _ _)
theorem Cn.bool(b:Bool):Cn P (Pure.pure (.bool b):Sem Value):=fun _ _=>SR.pure (.bool _)
theorem nT(op:BinOp)(k:FloatKind)(a b c d:Nat):Cn P (Op.complexOp op k a b c d):=by
 unfold Op.complexOp
 cases op <;> dsimp only <;> first
  | exact(fun _ _=>trivial)
  | (repeat' first
   | (with_reducible exact Cn.complex _ _ _)
   | (with_reducible exact Cn.bool _)
   | (with_reducible refine Cn.bind (rW _ _ _ _) fun _=>?_)
   | (with_reducible refine Cn.bind (KC _ _ _ _) fun _=>?_)
   | (with_reducible refine Cn.bind (Ya _ _ _) fun _=>?_)
   | (with_reducible refine Cn.bind (KD _ _ _ _) fun _=>?_)
   | (with_reducible refine Cn.bind (GZ _ _ _ _) fun _=>?_)
   | (with_reducible refine Cn.ite ?_ ?_))
theorem iX(hi:dL ρ){ts:Array TypeId}{t:TypeId}{x x' y y':Value}(hx:VR ρ x x')(hy:VR ρ y y'):SR P VR ρ (Builtin.unsafeAdd_ ts t #[x,y]) (Builtin.unsafeAdd_ ts t #[x',y']):=by
 unfold Builtin.unsafeAdd_
 cases hx with
 | yL=>
   dsimp only
   refine(CF hi hy).aO hi fun ρ1 l1 n=>?_
   split
   ·exact zT
   ·split <;> exact zT
 | ptr ha=>
   dsimp only
   refine(CF hi hy).aO hi fun ρ1 l1 n=>?_
   split
   ·refine(Av l1.2 (l1.1 _ _ ha.1)).bind' l1.2 ?_
    rintro ρ2 l2 u v ⟨rfl,rfl⟩
    exact SR.pure (.ptr (ha.mono (l1.1.trans l2.1)))
   ·split
    ·exact zT
    ·refine(ou (l1.1 _ _ ha.1)).aO l1.2 fun ρ2 l2 u=>?_
     cases u with
     | none=>exact zT
     | some u=>
       obtain⟨e,c⟩:=u
       dsimp only
       refine iT.bind' l2.2 ?_
       rintro ρ3 l3 Q Q' ⟨rfl,rfl⟩
       rw[ha.2.1]
       cases cellAtBytes Q' Q'.depth e (c / Q'.cellsOf e) _ n with
       | none=>exact zT
       | some o=>exact SR.pure (.ptr ⟨l3.1 _ _ (l2.1 _ _ (l1.1 _ _ ha.1)),rfl,ha.2.2⟩)
 | _=>exact zT
theorem dM(hi:dL ρ)(t:TypeId){x x' y y':Value}(hx:VR ρ x x')(hy:VR ρ y y'):SR P VR ρ (movedNumber t x y) (movedNumber t x' y'):=by
 unfold movedNumber
 refine(aL t).aO hi fun ρ1 l1 d=>?_
 dsimp only
 have rest:SR P VR ρ1 (do
  let .pointer (some n):=x|Builtin.unsafeAdd_ #[] t #[x,y]
  let (a,lost) ← behindNumber n
  match ← Builtin.unsafeAdd_ #[] t #[.pointer (some a),y] with
  | .pointer (some b)=>asNumber b lost
  | v=>pure v) (do
  let .pointer (some n):=x'|Builtin.unsafeAdd_ #[] t #[x',y']
  let (a,lost) ← behindNumber n
  match ← Builtin.unsafeAdd_ #[] t #[.pointer (some a),y'] with
  | .pointer (some b)=>asNumber b lost
  | v=>pure v):=by
  have hy1:=hy.mono l1.1
  have hx1:=hx.mono l1.1
  have hu:=iX (P:=P) l1.2 (ts:=#[]) (t:=t) hx1 hy1
  cases hx1 with
  | ptr ha=>
    dsimp only
    refine(aZ l1.2 ha).bind' l1.2 ?_
    rintro ρ2 l2 p p' ⟨hp,e⟩
    obtain⟨p,b⟩:=p
    obtain⟨p',b'⟩:=p'
    cases e
    dsimp only
    refine(iX l2.2 (.ptr hp) (hy1.mono l2.1)).bind' l2.2 ?_
    intro ρ3 l3 v v' hv
    cases hv with
    | ptr hb=>exact Eu hb _ l3.2
    | _=>exact SR.pure (by constructor <;> assumption)
  | _=>exact hu
 cases d <;> first|exact rest|exact zT
theorem lU(hi:dL ρ)(t:TypeId){x x' y y':Value}(hx:VR ρ x x')(hy:VR ρ y y'):SR P VR ρ (movedPointer t x y) (movedPointer t x' y'):=by
 unfold movedPointer
 have hu:=iX (P:=P) hi (ts:=#[]) (t:=t) hx hy
 cases hx with
 | ptr ha=>
   dsimp only
   refine(sQ hi ha.1).bind' hi ?_
   rintro ρ1 l1 p p' (⟨rfl,rfl⟩|⟨b,b',l,rfl,rfl,hb⟩)
   ·exact iX (ts:=#[]) (t:=t) l1.2 (.ptr (ha.mono l1.1)) (hy.mono l1.1)
   ·exact zT
 | _=>exact hu
theorem uZ(hi:dL ρ)(k:IntKind){a a':Addr}(ha:AR ρ a a')(n:Int):SR P VR ρ (Op.addrMod k a n) (Op.addrMod k a' n):=by
 unfold Op.addrMod
 refine(ou ha.1).aO hi fun ρ1 l1 u=>?_
 cases u with
 | none=>exact zT
 | some u=>
   obtain⟨e,c⟩:=u
   dsimp only
   refine(gD e).aO l1.2 fun ρ2 l2 i=>?_
   split
   ·exact zT
   ·exact(qM l2.2 (ha.mono (l1.1.trans l2.1))).aO l2.2 fun _ _ b=>SR.pure (.int _ _)
theorem qF(hg:P.globals.size=0)(hi:dL ρ)(a b a' b':Addr):SR P (fun _ _ _=>False) ρ (Op.twoPlaces a b) (Op.twoPlaces a' b'):=by
 unfold Op.twoPlaces
 refine iT.bind' hi ?_
 rintro ρ1 l1 Q Q' ⟨rfl,rfl⟩
 have e:∀ (a b:Addr),(a.block != b.block || decide (a.block≥Q'.globals.size))=true:=fun a b=>by simp[hg]
 dsimp only
 simp only[e,if_true]
 exact zT
theorem Gw(hg:P.globals.size=0)(hi:dL ρ)(k:IntKind)(a b a' b':Addr):SR P VR ρ (Op.addrSub k a b) (Op.addrSub k a' b'):=(qF hg hi a b a' b').bind' hi fun _ _ _ _ h=>h.elim
theorem Gv(hg:P.globals.size=0)(hi:dL ρ)(op:BinOp)(a b a' b':Addr):SR P VR ρ (Op.addrCmp op a b) (Op.addrCmp op a' b'):=(qF hg hi a b a' b').bind' hi fun _ _ _ _ h=>h.elim
theorem Pg(hg:P.globals.size=0)(hi:dL ρ)(op:BinOp)(ho:bI op=true)(t:TypeId){x x' y y':Value}(hx:VR ρ x x')(hy:VR ρ y y'):SR P VR ρ (binOp op t x y) (binOp op t x' y'):=by
 cases hx with
 | int k n=>
   cases hy with
   | int k' n'=>exact yj op t k k' n n'
   | ptr hb=>cases op <;> first|exact zT|exact dM hi t (.ptr hb) (.int k n)|exact(aZ hi hb).bind' hi fun _ l _ _ hp=>uZ l.2 _ hp.1 _|simp[bI] at ho
   | yL=>cases op <;> first|exact zT|exact dM hi t .yL (.int k n)|simp[bI] at ho
   | _=>cases op <;> first|exact zT|simp[bI] at ho
 | float k n=>
   cases hy with
   | float k' n'=>exact qP hi op t k k' n n'
   | _=>cases op <;> first|exact zT|simp[bI] at ho
 | complex k m n=>
   cases hy with
   | complex k' m' n'=>
     cases op <;> (unfold binOp;dsimp only) <;> (split <;> first|exact zT|exact nT _ _ _ _ _ _ _ hi)
   | _=>cases op <;> first|exact zT|simp[bI] at ho
 | string s=>
   cases hy with
   | string s'=>cases op <;> (unfold binOp;dsimp only;exact lF _ _ _)
   | _=>cases op <;> first|exact zT|simp[bI] at ho
 | ptr ha=>
   cases hy with
   | int k n=>cases op <;> first
    | exact zT
    | (refine(aL t).aO hi fun ρ1 l1 d=>?_
       cases d <;> first|exact dM l1.2 t (.ptr (ha.mono l1.1)) (.int k n)|exact lU l1.2 t (.ptr (ha.mono l1.1)) (.int k n))
    | exact dM hi t (.ptr ha) (.int k _)
    | exact(aZ hi ha).bind' hi fun _ l _ _ hp=>uZ l.2 _ hp.1 _
    | simp[bI] at ho
   | ptr hb=>cases op <;> first
    | exact zT
    | exact(aZ hi ha).bind' hi fun _ l _ _ hp=>(aZ l.2 (hb.mono l.1)).bind' l.2 fun _ l2 _ _ hq=>Gw hg l2.2 _ _ _ _ _
    | exact(aZ hi ha).bind' hi fun _ l _ _ hp=>(aZ l.2 (hb.mono l.1)).bind' l.2 fun _ l2 _ _ hq=>Gv hg l2.2 _ _ _ _ _
    | simp[bI] at ho
   | _=>cases op <;> first|exact zT|simp[bI] at ho
 | yL=>
   cases hy with
   | int k n=>cases op <;> first
    | exact zT
    | (refine(aL t).aO hi fun ρ1 l1 d=>?_
       cases d <;> first|exact dM l1.2 t .yL (.int k n)|exact lU l1.2 t .yL (.int k n))
    | exact dM hi t .yL (.int k _)
    | simp[bI] at ho
   | _=>cases op <;> first|exact zT|simp[bI] at ho
 | _=>cases hy <;> cases op <;> first|exact zT|simp[bI] at ho
theorem iW{op:BinOp}(ho:bI op=true)(t:TypeId)(x y:Operand)(a b:Value):eqGuard op t x y a b=pure ():=by
 cases op <;> first|rfl|simp[bI] at ho
structure Ej(P:Program)(t:TypeId):Prop where
 und:∃k,P.underlying t=some (.int k)
 copy:wR P t=true
 guard:P.eqGuardType P.depth t=false
theorem Ii{t:TypeId}{k:IntKind}(h:P.underlying t=some (.int k))(hi:dL ρ)(d:Nat)(a b:Value):SR P (fun _ x y=>x=false∧y=false) ρ (Op.eqGuardIn (d+1) t a b) (Op.eqGuardIn (d+1) t a b):=by
 unfold Op.eqGuardIn
 refine iy fun u hu=>?_
 rw[h] at hu
 cases hu
 exact⟨_,rfl,rfl,rfl⟩
theorem H6{t:TypeId}(hT:Ej P t)(hi:dL ρ)(op:BinOp)(x y:Operand){a a' b b':Value}(ha:VR ρ a a')(hb:VR ρ b b'):SR P mG ρ (eqGuard op t x y a b) (eqGuard op t x y a' b'):=by
 obtain⟨k,hk⟩:=hT.und
 have e1:SR P mG ρ (do if ← Op.eqGuardIn Op.maxDepth t .nilIface .nilIface then unsupported (.noEntry Cp)) (do if ← Op.eqGuardIn Op.maxDepth t .nilIface .nilIface then unsupported (.noEntry Cp)):=by
  refine(Ii hk hi 9999 _ _).bind' hi ?_
  rintro ρ1 l1 u v ⟨rfl,rfl⟩
  exact SR.pure rfl
 have one:∀op,bI op=false→SR P mG ρ (eqGuard op t x y a b) (eqGuard op t x y a' b'):=by
  intro op ho
  cases op <;> first|(simp[bI] at ho;done)|skip
  all_goals
   unfold eqGuard
   cases ha with
   | nilIface=>
     cases hb with
     | nilIface=>
       dsimp only
       cases x <;> cases y <;> first|exact SR.pure rfl|exact e1
     | _=>exact SR.pure rfl
   | agg e h=>
     cases hb with
     | agg e h=>
       dsimp only
       refine iT.bind' hi ?_
       rintro ρ1 l1 Q Q' ⟨rfl,rfl⟩
       refine iT.bind' l1.2 ?_
       rintro ρ2 l2 Q Q2 ⟨rfl,rfl⟩
       simp only[hT.guard]
       exact SR.pure rfl
     | _=>exact SR.pure rfl
   | _=>exact SR.pure rfl
 cases ho:bI op with
 | true=>rw[iW ho,iW ho];exact SR.pure rfl
 | false=>exact one op ho
theorem Rz{x x':Value}(hx:VR ρ x x'):SR P VR ρ (Op.unary .not x) (Op.unary .not x'):=by
 cases hx <;> first|exact SR.pure (.bool _)|exact zT
theorem qm(hg:P.globals.size=0){t:TypeId}(hT:Ej P t)(hi:dL ρ){x x' y y':Value}(hx:VR ρ x x')(hy:VR ρ y y'):SR P mG ρ (Op.equal t x y) (Op.equal t x' y'):=by
 obtain⟨k,hk⟩:=hT.und
 have h:=hT.copy
 show SR P mG ρ (Op.equalIn (9999+1) t x y) (Op.equalIn (9999+1) t x' y')
 unfold Op.equalIn
 refine iy fun u hu=>?_
 rw[hk] at hu
 cases hu
 cases hx with
 | int k1 n1=>
   cases hy with
   | int k2 n2=>dsimp only;split <;> first|exact SR.pure rfl|exact zT
   | ptr ha=>cases n1 with
     | ofNat m=>cases m with
       | zero=>exact SR.pure rfl
       | succ m=>exact zT
     | negSucc m=>exact zT
   | _=>exact zT
 | ptr ha=>
   cases hy with
   | int k2 n2=>cases n2 with
     | ofNat m=>cases m with
       | zero=>exact SR.pure rfl
       | succ m=>exact zT
     | negSucc m=>exact zT
   | ptr hb=>
     dsimp only
     refine(aZ hi ha).bind' hi ?_
     intro ρ1 l1 p p' hp
     refine(aZ l1.2 (hb.mono l1.1)).bind' l1.2 ?_
     intro ρ2 l2 q q' hq
     refine iT.bind' l2.2 ?_
     rintro ρ3 l3 Q Q' ⟨rfl,rfl⟩
     have e1:∀ (a b:Addr),(a.block == b.block && decide (a.block<Q'.globals.size))=false:=fun a b=>by simp[hg]
     simp only[e1,Bool.false_eq_true,if_false]
     refine ZG fun i hti=>?_
     replace h:wR Q' t=true:=h
     unfold wR at h
     rw[hti] at h
     dsimp only at h
     split
     ·rename_i he
      rw[he] at h
      simp at h
     ·exact zT
   | _=>exact zT
 | _=>cases hy <;> exact zT
theorem Kt(hg:P.globals.size=0){t:TypeId}(hT:Ej P t)(hi:dL ρ){x x' y y':Value}(hx:VR ρ x x')(hy:VR ρ y y'):SR P VR ρ (binOp .eql t x y) (binOp .eql t x' y'):=by
 have h1:SR P VR ρ (do pure (.bool (← Op.equal t x y))) (do pure (.bool (← Op.equal t x' y'))):=(qm hg hT hi hx hy).aO hi fun _ _ b=>SR.pure (.bool _)
 cases hx with
 | int k n=>cases hy with
   | int k' n'=>exact yj _ t k k' n n'
   | _=>exact h1
 | float k n=>cases hy with
   | float k' n'=>exact qP hi _ t k k' n n'
   | _=>exact h1
 | complex k m n=>cases hy with
   | complex k' m' n'=>unfold binOp;dsimp only;(split <;> first|exact zT|exact nT _ _ _ _ _ _ _ hi)
   | _=>exact h1
 | string a=>cases hy with
   | string b=>unfold binOp;dsimp only;exact lF _ _ _
   | _=>exact h1
 | _=>exact h1
theorem Ku(hg:P.globals.size=0){t:TypeId}(hT:Ej P t)(hi:dL ρ){x x' y y':Value}(hx:VR ρ x x')(hy:VR ρ y y'):SR P VR ρ (binOp .neq t x y) (binOp .neq t x' y'):=by
 have h1:SR P VR ρ (do pure (.bool (!(← Op.equal t x y)))) (do pure (.bool (!(← Op.equal t x' y')))):=(qm hg hT hi hx hy).aO hi fun _ _ b=>SR.pure (.bool _)
 cases hx with
 | int k n=>cases hy with
   | int k' n'=>exact yj _ t k k' n n'
   | _=>exact h1
 | float k n=>cases hy with
   | float k' n'=>exact qP hi _ t k k' n n'
   | _=>exact h1
 | complex k m n=>cases hy with
   | complex k' m' n'=>unfold binOp;dsimp only;(split <;> first|exact zT|exact nT _ _ _ _ _ _ _ hi)
   | _=>exact h1
 | string a=>cases hy with
   | string b=>unfold binOp;dsimp only;exact lF _ _ _
   | _=>exact h1
 | _=>exact h1
theorem Pf(hg:P.globals.size=0){t:TypeId}(hT:Ej P t)(hi:dL ρ)(op:BinOp)(ho:bI op=false){x x' y y':Value}(hx:VR ρ x x')(hy:VR ρ y y'):SR P VR ρ (binOp op t x y) (binOp op t x' y'):=by
 cases op <;> first|exact Kt hg hT hi hx hy|exact Ku hg hT hi hx hy|simp[bI] at ho
theorem F8{z z':Array Value}(hz:dX ρ z z')(n:Nat):dX ρ ((Array.range n).map (z[· % z.size]!)) ((Array.range n).map (z'[· % z'.size]!)):=by
 refine⟨zs,fun i h h'=>?_⟩
 simp only[Array.getElem_map,Array.getElem_range]
 rw[← hz.1]
 rcases hz.get? (i % z.size) with⟨a,b⟩|⟨v,v',a,b,c⟩
 ·simp only[Array.getElem!_eq_getD,Array.getD_eq_getD_getElem?,a,b,Option.getD_none]
  exact .bool false
 ·simp only[Array.getElem!_eq_getD,Array.getD_eq_getD_getElem?,a,b,Option.getD_some]
  exact c
theorem xG(hi:dL ρ){t:TypeId}(hz:∀e,P.underlying t=some (.slice e)→OV P e)(n:Nat){l l':Array (Nat × Value)}(hm:∀ {ρ'},Le ρ ρ'→jR ρ' l.toList l'.toList):SR P VR ρ (Instr.buildSlice t n l) (Instr.buildSlice t n l'):=by
 unfold Instr.buildSlice
 refine iy fun d hd=>?_
 cases d with
 | slice el=>
   dsimp only
   refine(aX hi el).aO hi fun ρ1 l1 size=>?_
   have tail:∀ {ρ2:Ren} (l2:Ext ρ ρ2) {z z':Array Value} (hzz:dX ρ2 z z'),SR P VR ρ2
    (match Instr.fill (fun i=>some (i * size,size)) ((Array.range (n * size)).map (z[· % z.size]!)) l.toList with|some cells=>do pure (.slice (some (← newRow el cells)) n n)|_=>stuck sQ9)
    (match Instr.fill (fun i=>some (i * size,size)) ((Array.range (n * size)).map (z'[· % z'.size]!)) l'.toList with|some cells=>do pure (.slice (some (← newRow el cells)) n n)|_=>stuck sQ9):=by
    intro ρ2 l2 z z' hzz
    rcases xQ (ρ:=ρ2) (fun i=>some (i * size,size)) (hm l2.1) (F8 hzz (n * size)) with⟨e1,e2⟩|⟨x,x',e1,e2,hx⟩
    ·simp only[e1,e2];exact zT
    ·simp only[e1,e2];exact(qW el hx).bind' l2.2 fun _ _ a a' ha=>SR.pure (.sl n n ha)
   by_cases c:n * size > 2 ^ 24
   ·simp only[c,if_true];exact zT
   ·simp only[c,if_false]
    by_cases c2:n * size=0
    ·simp only[c2,if_true]
     have:=tail l1 (dX.nil ρ1)
     simp only[c2] at this
     exact this
    ·simp only[c2,if_false]
     exact(iZ l1.2 (hz el hd)).bind' l1.2 fun ρ2 l2 z z' h=>tail (l1.trans l2) h.cells
 | _=>exact zT
structure RZ(P:Program)(s d:TypeId):Prop where
 src:∃k,P.underlying s=some (.int k)
 dst:∃k,P.underlying d=some (.int k)
theorem Hf{s d:TypeId}(hT:RZ P s d){x x':Value}(hx:VR ρ x x'):SR P VR ρ (convert s d x) (convert s d x'):=by
 unfold convert
 refine iy fun a ha=>iy fun b hb=>?_
 obtain⟨k,hk⟩:=hT.src
 obtain⟨j,hj⟩:=hT.dst
 rw[hk] at ha
 rw[hj] at hb
 cases ha
 cases hb
 cases hx with
 | int q n=>exact SR.pure (.int _ _)
 | float q n=>
   show SR P VR ρ (Conv.floatToInt q n j) (Conv.floatToInt q n j)
   unfold Conv.floatToInt
   dsimp only
   have any:SR P VR ρ (do pure (.int j (j.wrap (← choose (.floatToInt q n j)))):Sem Value) (do pure (.int j (j.wrap (← choose (.floatToInt q n j))))):=⟨_,rfl,fun m=>⟨_,rfl,.int _ _⟩⟩
   split
   ·split
    ·exact SR.pure (.int _ _)
    ·exact any
   ·exact any
 | _=>exact zT
theorem sK(t:TypeId){x x':Value}(hx:VR ρ x x'):SR P VR ρ (Instr.makeInterface t x) (Instr.makeInterface t x'):=by
 unfold Instr.makeInterface
 refine iy fun d hd=>?_
 cases d <;> first|exact zT|exact SR.pure (.iface t hx)
theorem jf(hi:dL ρ){l l':Nat}(h:ρ l=some l'):SR P uY ρ (Instr.getLoop l) (Instr.getLoop l'):=by
 unfold Instr.getLoop
 refine(jN h).bind' hi fun ρ1 l1 o o' ho=>?_
 cases ho with
 | loop hr=>exact SR.pure hr
 | _=>exact zT
def jv(r:Nat):Deferred:={target:=.collected r,args:=#[] }
def dQ(ρ:Ren)(a b:List Deferred):Prop:=∃x x':List Nat,a=x.map jv∧b=x'.map jv∧x.length=x'.length∧∀ (i:Nat) (r:Nat),x[i]? =some r→∃r',x'[i]? =some r'∧ρ r=some r'
theorem dQ.nil(ρ:Ren):dQ ρ [] []:=⟨[],[],rfl,rfl,rfl,fun i r h=>by simp at h⟩
theorem dQ.cons{r r':Nat}{a b:List Deferred}(h:ρ r=some r')(k:dQ ρ a b):dQ ρ (jv r :: a) (jv r' :: b):=by
 obtain⟨x,x',rfl,rfl,h1,h2⟩:=k
 refine⟨r :: x,r' :: x',rfl,rfl,by simp[h1],fun i q hq=>?_⟩
 cases i with
 | zero=>simp only[List.getElem?_cons_zero,Option.some.injEq] at hq;subst hq;exact⟨r',zs,h⟩
 | succ i=>simp only[List.getElem?_cons_succ] at hq⊢;exact h2 i q hq
theorem dQ.mono{ρ':Ren}(l:Le ρ ρ'){a b:List Deferred}(h:dQ ρ a b):dQ ρ' a b:=by
 obtain⟨x,x',h0,h1,h2,h3⟩:=h
 exact⟨x,x',h0,h1,h2,fun i r hr=>let ⟨r',e1,e2⟩:=h3 i r hr;⟨r',e1,l _ _ e2⟩⟩
theorem dQ.cases{a b:List Deferred}(h:dQ ρ a b):(a=[]∧b=[])∨∃r r' a' b',a=jv r :: a'∧b=jv r' :: b'∧ρ r=some r'∧dQ ρ a' b':=by
 obtain⟨x,x',rfl,rfl,h1,h2⟩:=h
 cases x with
 | nil=>
   cases x' with
   | nil=>exact .inl ⟨rfl,rfl⟩
   | cons _ _=>simp at h1
 | cons r x=>
   cases x' with
   | nil=>simp at h1
   | cons r' x'=>
     obtain⟨q,e,hq⟩:=h2 0 r zs
     simp only[List.getElem?_cons_zero,Option.some.injEq] at e
     subst e
     exact .inr ⟨r,r',_,_,rfl,rfl,hq,x,x',rfl,rfl,by simpa using h1,fun i s hs=>by simpa using h2 (i+1) s (by simpa using hs)⟩
theorem dQ.append{a b c d:List Deferred}(h:dQ ρ a b)(k:dQ ρ c d):dQ ρ (a ++ c) (b ++ d):=by
 obtain⟨x,x',rfl,rfl,h1,h2⟩:=h
 obtain⟨y,y',rfl,rfl,k1,k2⟩:=k
 refine⟨x ++ y,x' ++ y',zs,zs,by simp[h1,k1],fun i r hr=>?_⟩
 rw[List.getElem?_append] at hr⊢
 rw[← h1]
 split at hr
 ·rename_i hl;rw[if_pos hl];exact h2 i r hr
 ·rename_i hl;rw[if_neg hl];exact k2 _ r hr
def sq(ρ:Ren)(x x':Nat × List Deferred):Prop:=ρ x.1=some x'.1∧dQ ρ x.2 x'.2
theorem Dk{o o':Obj}(h:OR ρ o o'):SR P (fun ρ r r'=>ρ r=some r') ρ (newObj o) (newObj o'):=⟨_,_,rfl,h,fun _ _ r r' hr=>⟨r',rfl,hr⟩⟩
theorem ql(hi:dL ρ){fn:FuncId}{tmps vU:Array Value}(ht:dX ρ tmps vU)(params:Array Tmp){assign body:Code}(h1:jw fn assign)(h2:jw fn body){around Et:Option Nat}(ha:(around=none∧Et=none)∨∃l l',around=some l∧Et=some l'∧ρ l=some l'):
 SR P sq ρ (Instr.enterLoop fn tmps params assign body around) (Instr.enterLoop fn vU params assign body Et):=by
 unfold Instr.enterLoop
 have fin:∀ {ρ1:Ren} (l1:Ext ρ ρ1) {d d':Nat} (hd:ρ1 d=some d') {m m':List Deferred} (hm:dQ ρ1 m m'),SR P sq ρ1 (do pure (← newObj (.loop {state:=.ready,pending:=none,fn,tmps,params,assign,body,defers:=d }),m):Sem (Nat × List Deferred)) (do pure (← newObj (.loop {state:=.ready,pending:=none,fn,tmps:=vU,params,assign,body,defers:=d' }),m')):=by
  intro ρ1 l1 d d' hd m m' hm
  refine(Dk (.loop ⟨rfl,ht.mono l1.1,hd,⟨h1,h2,fun j hj=>by cases hj⟩⟩)).bind' l1.2 fun ρ2 l2 r r' hr=>SR.pure ⟨hr,hm.mono l2.1⟩
 rcases ha with⟨rfl,rfl⟩|⟨l,l',rfl,rfl,hl⟩
 ·dsimp only
  exact(Dk (.defs (.inr rfl))).bind' hi fun ρ1 l1 r r' hr=>fin l1 hr (.cons hr (.nil ρ1))
 ·dsimp only
  exact(jf hi hl).bind' hi fun ρ1 l1 r r' hr=>fin l1 hr.defers (.nil ρ1)
theorem uY.turn{r r':Loop}(h:uY ρ r r')(s:LoopState)(p:Option Code)(hp:∀j,p=some j→jw r.fn j):uY ρ {r with state:=s,pending:=p } {r' with state:=s,pending:=p }:=
 ⟨by rw[h.eq],h.tmps,h.defers,⟨h.ok.assign,h.ok.body,hp⟩⟩
theorem nP(hi:dL ρ){l l':Nat}(h:ρ l=some l'):SR P mG ρ (Instr.beginRound l) (Instr.beginRound l'):=by
 unfold Instr.beginRound
 refine(jf hi h).bind' hi fun ρ1 l1 r r' hr=>?_
 have hs:r'.state=r.state:=by rw[hr.eq]
 refine(oZ (l1.1 _ _ h) (.loop (by rw[show r'.pending=r.pending by rw[hr.eq]];exact(hr.turn .busy r.pending hr.ok.pending)))).aO l1.2 fun ρ2 l2 _=>?_
 rw[hs]
 cases r.state with
 | ready=>exact SR.pure rfl
 | _=>exact aR (e:=.error _) zs zs
theorem ED(hi:dL ρ){l l':Nat}(h:ρ l=some l')(jump:Option Code)(hj:∀r:Loop,Te r→∀j,jump=some j→jw r.fn j):SR P VR ρ (Instr.endRound l jump) (Instr.endRound l' jump):=by
 unfold Instr.endRound
 refine(jf hi h).bind' hi fun ρ1 l1 r r' hr=>?_
 refine(oZ (l1.1 _ _ h) (.loop (hr.turn _ jump (hj r hr.ok)))).aO l1.2 fun ρ2 l2 _=>SR.pure (.bool _)
theorem vo(hi:dL ρ){l l':Nat}(h:ρ l=some l'):SR P (fun _ a b=>a=b∧∀j,a=some j→∃f,jw f j) ρ (Instr.endLoop l) (Instr.endLoop l'):=by
 unfold Instr.endLoop
 refine(jf hi h).bind' hi fun ρ1 l1 r r' hr=>?_
 have hs:r'.state=r.state:=by rw[hr.eq]
 have hp:r'.pending=r.pending:=by rw[hr.eq]
 rw[hs]
 have fin:∀ {ρ2:Ren} (l2:Ext ρ1 ρ2),SR P (fun _ a b=>a=b∧∀j,a=some j→∃f,jw f j) ρ2 (do setObj l (.loop {r with state:=.exhausted });pure r.pending) (do setObj l' (.loop {r' with state:=.exhausted });pure r'.pending):=by
  intro ρ2 l2
  refine(oZ ((l1.trans l2).1 _ _ h) (.loop (by rw[hp];exact(hr.mono l2.1).turn .exhausted r.pending hr.ok.pending))).aO l2.2 fun ρ3 l3 _=>SR.pure ⟨hp.symm,fun j e=>⟨_,hr.ok.pending j e⟩⟩
 cases r.state == LoopState.busy with
 | true=>exact aR (e:=.error _) zs zs
 | false=>exact fin (.refl l1.2)
theorem uT(hi:dL ρ){l l':Nat}(h:ρ l=some l'):SR P (fun _ a b=>a=[]∧b=[]) ρ (Instr.takeDeferred l) (Instr.takeDeferred l'):=by
 unfold Instr.takeDeferred
 refine(jN h).bind' hi fun ρ1 l1 o o' ho=>?_
 cases ho with
 | defs hd=>
   rcases hd with rfl|rfl
   ·exact zT
   ·exact(oZ (l1.1 _ _ h) (.defs (.inl rfl))).aO l1.2 fun _ _ _=>SR.pure ⟨rfl,rfl⟩
 | _=>exact zT
theorem Bz{p:Array Tmp}:∀ {a a':Array Value},dX ρ a a'→∀ {t t':Array Value},dX ρ t t'→dX ρ ((p.zip a).foldl (fun t (i,v)=>t.setIfInBounds i v) t) ((p.zip a').foldl (fun t (i,v)=>t.setIfInBounds i v) t'):=by
 intro a a' ha t t' ht
 rw[← Array.foldl_toList,← Array.foldl_toList,Array.toList_zip,Array.toList_zip]
 have hl:=ha.list
 generalize a.toList=x at hl
 generalize a'.toList=x' at hl
 generalize p.toList=q
 clear ha
 induction hl generalizing q t t' with
 | nil=>simp;exact ht
 | cons hv _ ih=>
   cases q with
   | nil=>simp;exact ht
   | cons i q=>simp only[List.zip_cons_cons,List.foldl_cons];exact ih (ht.set i hv) q
def ie(ρ:Ren):Next→Next→Prop
 | .round l f t a b,n=>∃l' t',n=.round l' f t' a b∧ρ l=some l'∧dX ρ t t'∧jw f a∧jw f b
 | _,_=>False
theorem D7(hi:dL ρ){l l':Nat}(h:ρ l=some l'){a a':Array Value}(ha:dX ρ a a'):SR P ie ρ (Instr.yield l a) (Instr.yield l' a'):=by
 unfold Instr.yield
 refine(jf hi h).bind' hi fun ρ1 l1 r r' hr=>?_
 have e1:r'.params=r.params:=by rw[hr.eq]
 have e2:r'.fn=r.fn:=by rw[hr.eq]
 have e3:r'.assign=r.assign:=by rw[hr.eq]
 have e4:r'.body=r.body:=by rw[hr.eq]
 rw[e1,e2,e3,e4,← ha.1]
 by_cases c:a.size=r.params.size
 ·simp only[c,ne_eq,not_true_eq_false,if_false]
  exact SR.pure ⟨l',_,rfl,l1.1 _ _ h,Bz (ha.mono l1.1) hr.tmps,hr.ok.assign,hr.ok.body⟩
 ·simp only[ne_eq,c,not_false_eq_true,if_true]
  exact zT
theorem YJ(hi:dL ρ)(ts:Array TypeId)(t:TypeId){x x':Value}(hx:VR ρ x x'):SR P VR ρ (Builtin.len_ ts t #[x]) (Builtin.len_ ts t #[x']):=by
 unfold Builtin.len_
 cases ts[0]? with
 | none=>exact zT
 | some u=>
   show SR P VR ρ (underlying u >>= _) (underlying u >>= _)
   refine(aL u).aO hi fun ρ1 l1 d=>?_
   have hx1:=hx.mono l1.1
   cases d with
   | string=>cases hx1 <;> first|exact SR.pure (.int _ _)|exact zT
   | array n e=>exact SR.pure (.int _ _)
   | pointer a=>
     refine(aL a).aO l1.2 fun ρ2 l2 d=>?_
     cases d <;> first|exact SR.pure (.int _ _)|exact zT
   | slice e=>cases hx1 <;> first|exact SR.pure (.int _ _)|exact zT
   | map k e=>
     cases hx1 with
     | YO=>exact SR.pure (.int _ _)
     | map hr=>
       refine(jN hr).bind' l1.2 fun ρ2 l2 o o' ho=>?_
       cases ho with
       | map c hm=>exact SR.pure (by rw[hm.1];exact .int _ _)
       | _=>exact zT
     | _=>exact zT
   | chan k e=>
     cases hx1 with
     | Yb=>exact SR.pure (.int _ _)
     | chan hr=>
       refine(jN hr).bind' l1.2 fun ρ2 l2 o o' ho=>?_
       cases ho <;> exact zT
     | _=>exact zT
   | _=>exact zT
theorem Vf(hi:dL ρ){x x' y y':Value}(hx:VR ρ x x')(hy:VR ρ y y'):SR P VR ρ (Builtin.min2 x y) (Builtin.min2 x' y'):=by
 unfold Builtin.min2
 cases hx with
 | int k n=>cases hy <;> first|exact SR.pure (.int _ _)|exact zT
 | float k n=>
   cases hy with
   | float k' n'=>
     dsimp only
     cases k.format.order n n' with
     | none=>exact(oL _).aO hi fun _ _ _=>SR.pure (.float _ _)
     | some o=>cases o <;> exact SR.pure (.float _ _)
   | _=>exact zT
 | string a=>
   cases hy with
   | string b=>exact SR.pure (.string _)
   | _=>exact zT
 | _=>cases hy <;> exact zT
theorem Ig:∀ {l l':List Value} {ρ:Ren},LR ρ l l'→dL ρ→∀ {v v':Value},VR ρ v v'→SR P VR ρ (l.foldlM Builtin.min2 v) (l'.foldlM Builtin.min2 v'):=by
 intro l
 induction l with
 | nil=>intro l' ρ h;cases h;exact fun _ _ _ hv=>SR.pure hv
 | cons x l ih=>
   intro l' ρ h
   cases h with
   | cons h hl=>
     intro hi v v' hv
     simp only[List.foldlM_cons]
     exact(Vf hi hv h).bind' hi fun ρ1 l1 a a' ha=>ih (hl.mono l1.1) l1.2 ha
theorem YN(hi:dL ρ)(ts:Array TypeId)(t:TypeId){x x':Array Value}(hx:dX ρ x x'):SR P VR ρ (Builtin.min_ ts t x) (Builtin.min_ ts t x'):=by
 unfold Builtin.min_
 have h:=hx.list
 generalize x.toList=l at h⊢
 generalize x'.toList=l' at h⊢
 cases h with
 | nil=>exact zT
 | cons hv hl=>exact Ig hl hi hv
theorem Qe{x x':Value}(h:VR ρ x x'):SR P mG ρ (Builtin.lenOf x) (Builtin.lenOf x'):=by
 cases h <;> first|exact SR.pure rfl|exact zT
theorem nU(hi:dL ρ)(s n:Nat){x x':Value}(h:VR ρ x x'):SR P dX ρ (Builtin.firstCells s n x) (Builtin.firstCells s n x'):=by
 cases h with
 | yU l c=>exact SR.pure (.nil ρ)
 | sl l c ha=>exact qp hi ha _
 | string s=>exact SR.pure ⟨rfl,fun i h h'=>by simp only[Array.getElem_map];exact .int _ _⟩
 | _=>exact zT
def Nc(e:TypeId)(size n:Nat)(zeros:Bool)(x:Value):Sem (Array Value):=
 if !zeros then Builtin.firstCells size n x
 else if n * size=0 then pure #[]
 else do pure (Builtin.zeroCells (← zeroValue e).cells n)
def Ep(e:TypeId)(size sLen sCap n:Nat)(zeros:Bool)(s x:Value):Sem Value:=do
 let newCap ← choose (.appendCap (sLen+n) sCap e)
 askRoom (newCap * (← typeInfo e).bytes)
 let old ← Builtin.firstCells size sLen s
 let new ← Nc e size n zeros x
 let rest:=Builtin.zeroCells (← zeroValue e).cells (newCap - (sLen+n))
 pure (.slice (some (← newRow e (old ++ new ++ rest))) (sLen+n) newCap)
def Er(e:TypeId)(size sLen sCap n:Nat)(zeros:Bool)(base:Option Addr)(s x:Value):Sem Value:=do
 if Builtin.nextslicecap (sLen+n) sCap * (← typeInfo e).bytes > 2 ^ 48 then(if zeros then runtimePanic (.error Cd) else do
  if !(← Builtin.mayShare size sLen n base x) then mark .noRoom
  unsupported (.resourceLimit Cf))
 Ep e size sLen sCap n zeros s x
def xw(e:TypeId)(size sLen sCap n:Nat)(zeros:Bool)(base:Option Addr)(s x:Value):Sem Value:=do
 if sLen+n≤sCap then
  let new ← Nc e size n zeros x
  if let some a:=base then storeCells (a.add (sLen * size)) new.toList
  pure (.slice base (sLen+n) sCap)
 else
  if ((sLen+n:Nat):Int) > IntKind.i64.max∧(zeros∨(← typeInfo e).bytes=0) then runtimePanic (.error Cd)
  Er e size sLen sCap n zeros base s x
theorem Cz(hi:dL ρ)(e:TypeId)(size n:Nat){x x':Value}(hx:VR ρ x x'):SR P dX ρ (Nc e size n false x) (Nc e size n false x'):=nU hi size n hx
theorem Cm{z z':Array Value}(h:dX ρ z z')(n:Nat):dX ρ (Builtin.zeroCells z n) (Builtin.zeroCells z' n):=by
 unfold Builtin.zeroCells
 rw[h.1]
 refine⟨zs,fun i a b=>?_⟩
 simp only[Array.getElem_map,Array.getElem_range]
 have hs:0<z'.size:=by
  rcases Nat.eq_zero_or_pos z'.size with h0|h0
  ·simp[h0] at a
  ·exact h0
 have h1:i % z'.size<z'.size:=Nat.mod_lt _ hs
 have h2:i % z'.size<z.size:=by rw[h.1];exact h1
 rw[getElem!_pos z _ h2,getElem!_pos z' _ h1]
 exact h.2 _ _ _
theorem Gy(n:Nat):SR P mG ρ (askRoom n) (askRoom n):=by
 unfold askRoom
 split
 ·exact⟨_,rfl,rfl,(),rfl,rfl⟩
 ·exact SR.pure rfl
theorem Kj(hi:dL ρ){e:TypeId}(hz:OV P e)(size sLen sCap n:Nat){s s' x x':Value}(hs:VR ρ s s')(hx:VR ρ x x'):SR P VR ρ (Ep e size sLen sCap n false s x) (Ep e size sLen sCap n false s' x'):=by
 unfold Ep
 refine(oL _).aO hi fun ρ1 l1 newCap=>?_
 refine(gD e).aO l1.2 fun ρ2 l2 ti=>?_
 refine(Gy _).aO l2.2 fun ρ3 l3 _=>?_
 have l13:=l1.1.trans (l2.1.trans l3.1)
 refine(nU l3.2 size sLen (hs.mono l13)).bind' l3.2 fun ρ4 l4 old old' ho=>?_
 refine(Cz l4.2 e size n (hx.mono (l13.trans l4.1))).bind' l4.2 fun ρ5 l5 new new' hn=>?_
 refine(iZ l5.2 hz).bind' l5.2 fun ρ6 l6 z z' hzz=>?_
 refine(qW e (((ho.mono (l5.1.trans l6.1)).append (hn.mono l6.1)).append (Cm hzz.cells _))).bind' l6.2 fun ρ7 l7 a a' ha=>?_
 exact SR.pure (.sl _ _ ha)
def kR{α:Type}(c:Bool)(u:String):Sem α:=do
 if !c then mark .noRoom
 unsupported (.resourceLimit u)
theorem oo{γ δ:Type}{Q:Ren→γ→δ→Prop}(c:Bool)(u:String):SR P Q ρ (kR c u) (kR c u):=by
 cases c
 ·exact⟨_,rfl,rfl,zT⟩
 ·exact zT
theorem jF{α:Type}(c:Bool)(u:String):Dead (kR c u:Sem α):=by
 cases c <;> exact zT
def iQ(size n:Nat)(b:Option Addr)(x:Value)(there:Bool):Sem Bool:=do
 if !there then return true
 match x with
 | .slice (some b1) _ _=>do pure (!(← Builtin.holdsCells b1 (n * size)) || b.any (·.block == b1.block))
 | _=>pure false
theorem Du{α:Type}(size n:Nat)(b:Option Addr)(x:Value)(there:Bool)(u:String):Dead (iQ size n b x there >>= fun c=>(kR c u:Sem α)):=by
 unfold iQ
 cases there with
 | false=>exact jF true u
 | true=>
   cases x with
   | slice o l c=>
     cases o with
     | none=>exact jF false u
     | some b1=>
       intro r
       cases r <;> (dsimp only[Sem.bind,bind,pure];exact jF _ u)
   | _=>exact jF false u
theorem Vy{γ δ:Type}{Q:Ren→γ→δ→Prop}(size n:Nat){x x':Value}(hx:VR ρ x x')(u:String):
 SR P Q ρ (iQ size n none x true >>= fun c=>kR c u) (iQ size n none x' true >>= fun c=>kR c u):=by
 unfold iQ
 cases hx with
 | sl l c ha=>
   refine⟨_,_,rfl,ha.1,fun r=>?_⟩
   have e1:=ha.2.1
   have e2:=ha.2.2
   cases r with
   | none=>dsimp only[Sem.bind,bind,pure];exact oo (!false || false) u
   | some r=>dsimp only[Sem.bind,bind,pure];rw[e1,e2];exact oo _ u
 | _=>exact oo false u
theorem vF(size sLen n:Nat)(b:Option Addr)(x:Value):Builtin.mayShare size sLen n b x=(match b with
 | none=>iQ size n none x true
 | some a=>Builtin.holdsCells a (sLen * size) >>= fun h=>frozen (a.add (sLen / 2 * size)) >>= fun z=>iQ size n (some a) x (h && !z)):=by
 cases b <;> rfl
theorem Jc{γ δ:Type}{Q:Ren→γ→δ→Prop}(size sLen n:Nat){b b':Option Addr}(hb:Gn ρ b b'){x x':Value}(hx:VR ρ x x')(u:String):
 SR P Q ρ (Builtin.mayShare size sLen n b x >>= fun c=>kR c u) (Builtin.mayShare size sLen n b' x' >>= fun c=>kR c u):=by
 rw[vF,vF]
 rcases hb with⟨rfl,rfl⟩|⟨a,a',rfl,rfl,ha⟩
 ·exact Vy size n hx u
 ·refine⟨_,_,rfl,ha.1,fun r=>?_⟩
  cases r with
  | none=>exact fun z=>Du size n (some a) x (false && !z) u
  | some r=>
    obtain⟨t,m⟩:=r
    exact fun z=>Du size n (some a) x ((a.spot.isNone && decide (a.off+sLen * size≤m)) && !z) u
theorem Kk(hi:dL ρ){e:TypeId}(hz:OV P e)(size sLen sCap n:Nat){b b':Option Addr}(hb:Gn ρ b b'){s s' x x':Value}(hs:VR ρ s s')(hx:VR ρ x x'):SR P VR ρ (Er e size sLen sCap n false b s x) (Er e size sLen sCap n false b' s' x'):=by
 unfold Er
 refine(gD e).aO hi fun ρ1 l1 ti=>?_
 split
 ·have:=Jc (P:=P) (Q:=fun _ (_ _:Unit)=>False) size sLen n (hb.mono l1.1) (hx.mono l1.1) Cf
  exact SR.bind' l1.2 this fun _ _ _ _ h=>h.elim
 ·exact Kj l1.2 hz size sLen sCap n (hs.mono l1.1) (hx.mono l1.1)
theorem Kl(hi:dL ρ){e:TypeId}(hz:OV P e)(size sLen sCap n:Nat){b b':Option Addr}(hb:Gn ρ b b'){s s' x x':Value}(hs:VR ρ s s')(hx:VR ρ x x'):SR P VR ρ (xw e size sLen sCap n false b s x) (xw e size sLen sCap n false b' s' x'):=by
 unfold xw
 split
 ·refine(Cz hi e size n hx).bind' hi fun ρ1 l1 new new' hn=>?_
  rcases hb with⟨rfl,rfl⟩|⟨a,a',rfl,rfl,ha⟩
  ·exact SR.pure (.yU _ _)
  ·have ha1:=ha.mono l1.1
   exact(ow l1.2 (ha1.add (sLen * size)) hn.list).aO l1.2 fun ρ2 l2 _=>SR.pure (.sl _ _ (ha1.mono l2.1))
 ·refine(gD e).aO hi fun ρ1 l1 ti=>?_
  split
  ·exact SR.bind' (Q:=fun _ (_ _:Unit)=>False) l1.2 (aR zs zs) fun _ _ _ _ h=>h.elim
  ·exact Kk l1.2 hz size sLen sCap n (hb.mono l1.1) (hs.mono l1.1) (hx.mono l1.1)
structure Xp(P:Program)(ts:Array TypeId):Prop where
 zero:∀t e,ts[0]? =some t→P.underlying t=some (.slice e)→OV P e
 plain:∀t k,ts[1]? =some t→P.underlying t≠some (.int k)
theorem Km(hi:dL ρ)(ts:Array TypeId)(t:TypeId)(hT:Xp P ts){x x' y y':Value}(hx:VR ρ x x')(hy:VR ρ y y'):SR P VR ρ (Builtin.append_ ts t #[x,y]) (Builtin.append_ ts t #[x',y']):=by
 unfold Builtin.append_
 cases ht:ts[0]? with
 | none=>exact zT
 | some u=>
   show SR P VR ρ (underlying u >>= _) (underlying u >>= _)
   refine iy fun d hd=>?_
   cases d with
   | slice e=>
     have hz:=hT.zero u e ht hd
     have go:∀ {ρ1:Ren},Ext ρ ρ1→∀ (size sLen sCap:Nat) {b b':Option Addr},Gn ρ1 b b'→VR ρ1 x x'→SR P VR ρ1 (Builtin.lenOf y >>= fun n=>xw e size sLen sCap n false b x y) (Builtin.lenOf y' >>= fun n=>xw e size sLen sCap n false b' x' y'):=fun l size sLen sCap b b' hb hx=>
      (Qe (hy.mono l.1)).aO l.2 fun ρ2 l2 n=>Kl l2.2 hz size sLen sCap n (hb.mono l2.1) (hx.mono l2.1) (hy.mono (l.1.trans l2.1))
     cases hx with
     | yU l c=>
       show SR P VR ρ (sizeOf e >>= _) (sizeOf e >>= _)
       refine(aX hi e).aO hi fun ρ1 l1 size=>?_
       cases ht1:ts[1]? with
       | none=>exact go l1 size l c (.inl ⟨rfl,rfl⟩) (.yU l c)
       | some xt=>
         show SR P VR ρ1 (underlying xt >>= _) (underlying xt >>= _)
         refine iy fun d hd1=>?_
         have hp:=hT.plain xt
         cases d with
         | int k=>exact absurd hd1 (hp k ht1)
         | _=>exact go l1 size l c (.inl ⟨rfl,rfl⟩) (.yU l c)
     | sl l c ha=>
       show SR P VR ρ (sizeOf e >>= _) (sizeOf e >>= _)
       refine(aX hi e).aO hi fun ρ1 l1 size=>?_
       cases ht1:ts[1]? with
       | none=>exact go l1 size l c (.inr ⟨_,_,rfl,rfl,ha.mono l1.1⟩) (.sl l c (ha.mono l1.1))
       | some xt=>
         show SR P VR ρ1 (underlying xt >>= _) (underlying xt >>= _)
         refine iy fun d hd1=>?_
         have hp:=hT.plain xt
         cases d with
         | int k=>exact absurd hd1 (hp k ht1)
         | _=>exact go l1 size l c (.inr ⟨_,_,rfl,rfl,ha.mono l1.1⟩) (.sl l c (ha.mono l1.1))
     | _=>exact zT
   | _=>exact zT
def NR(F:FuncId→Prop)(ρ:Ren):Next→Next→Prop
 | .value v,n=>∃v',n=.value v'∧VR ρ v v'
 | .skip,n=>n=.skip
 | .enter f a,n=>∃a',n=.enter f a'∧dX ρ a a'∧F f
 | .round l f t a b,n=>∃l' t',n=.round l' f t' a b∧ρ l=some l'∧dX ρ t t'∧jw f a∧jw f b
 | _,_=>False
def gR(P:Program)(F:FuncId→Prop)(v:Value):Prop:=∀g first cap,v=.func (.func g) first cap→∃f c,F g∧P.funcs[g]? =some f∧f.body=some c∧(f.name == "runtime.NumGoroutine")=false
def Sup(P:Program)(F:FuncId→Prop)(ev:Operand→Value)(o:Oper):Prop:=
 match o.op with
 | .move _| .assign _| .pick _ _ _| .box _ _| .load _ _| .store _ _ _| .slice _ _ _ _ _| .fieldAddr _ _ _| .field _ _ _| .indexAddr _ _ _| .index _ _ _| .extract _ _=>True
 | .alloc t| .build t _=>OV P t
 | .buildSlice t _ _=>∀e,P.underlying t=some (.slice e)→OV P e
 | .convert s d _=>RZ P s d
 | .makeInterface _ _=>True
 | .binOp op t _ _ _=>bI op=true∨Ej P t
 | .unOp op _ _=>op=.not
 | .makeFunc fn _ _=>∃g,fn=.func g
 | .call c=>match c.callee with
   | .builtin b=>(b=.len∧c.args.size=1)∨b=.min∨(b=.append∧c.args.size=2∧Xp P c.argTypes)
   | .value f=>gR P F (ev f)
   | .invoke _ _=>False
 | _=>False
theorem Fb{ev ev':Operand→Value}{xs:Array Operand}(h:∀x∈xs,VR ρ (ev x) (ev' x)):dX ρ (xs.map ev) (xs.map ev'):=
 ⟨zs,fun i a b=>by simp only[Array.getElem_map];exact h _ (Array.getElem_mem _)⟩
theorem yJ{ev ev':Operand→Value}{xs:Array (Nat × Operand)}(h:∀x∈xs,VR ρ (ev x.2) (ev' x.2)):jR ρ (xs.map fun(i,x)=>(i,ev x)).toList (xs.map fun(i,x)=>(i,ev' x)).toList:=by
 obtain⟨l⟩:=xs
 simp only[List.map_toArray]
 have h':∀x∈l,VR ρ (ev x.2) (ev' x.2):=fun x hx=>h x (by simpa using hx)
 clear h
 induction l with
 | nil=>exact .nil
 | cons a l ih=>exact .cons _ (h' a zs) (ih fun x hx=>h' x (by simp[hx]))
theorem jR.mono{ρ':Ren}(l:Le ρ ρ'){x x':List (Nat × Value)}(h:jR ρ x x'):jR ρ' x x':=by
 induction h with
 | nil=>exact .nil
 | cons i h _ ih=>exact .cons i (h.mono l) ih
theorem Ma{ev ev':Operand→Value}{x:Option Operand}(h:∀y∈x,VR ρ (ev y) (ev' y)):qJ ρ (x.map ev) (x.map ev'):=by
 cases x with
 | none=>exact .inl ⟨rfl,rfl⟩
 | some y=>exact .inr ⟨_,_,rfl,rfl,h y rfl⟩
theorem fq{F:FuncId→Prop}(hi:dL ρ){s s':Sem Value}(h:SR P VR ρ s s'):SR P (NR F) ρ (do pure (.value (← s))) (do pure (.value (← s'))):=h.bind' hi fun _ _ _ _ hv=>SR.pure ⟨_,rfl,hv⟩
theorem bu{F:FuncId→Prop}(hi:dL ρ){s s':Sem Unit}(h:SR P mG ρ s s'):SR P (NR F) ρ (do s;pure .skip) (do s';pure .skip):=h.bind' hi fun _ _ _ _ _=>SR.pure rfl
theorem CJ{F:FuncId→Prop}(hi:dL ρ){v v':Value}(hl:gR P F v)(hv:VR ρ v v'){a a':Array Value}(ha:dX ρ a a'):SR P (NR F) ρ (do let d ← Deferred.ofValue v a;invoke d.target d.args) (do let d ← Deferred.ofValue v' a';invoke d.target d.args):=by
 cases hv with
 | func g e1 h1 e2 h2=>
   obtain⟨f,c,hF,hg,hb,hn⟩:=hl _ _ _ rfl
   have key:∀ (x y:Array Value),(do let d ← Deferred.ofValue (.func (.func g) x y) a;invoke d.target d.args:Sem Next)=callFunc g ((x ++ a) ++ y):=fun _ _=>rfl
   have key':∀ (x y:Array Value),(do let d ← Deferred.ofValue (.func (.func g) x y) a';invoke d.target d.args:Sem Next)=callFunc g ((x ++ a') ++ y):=fun _ _=>rfl
   rw[key,key']
   have hbn:f.body.isNone=false:=by rw[hb];rfl
   have hargs:=(dX.append (ρ:=ρ) (dX.append ⟨e1,h1⟩ ha) ⟨e2,h2⟩)
   unfold callFunc
   refine⟨_,rfl,?_⟩
   show SR P (NR F) ρ (match P.funcs[g]? with|none=>_|some fn=>_) (match P.funcs[g]? with|none=>_|some fn=>_)
   rw[hg]
   simp only[hn,hbn,Bool.false_eq_true,if_false]
   exact SR.pure ⟨_,rfl,hargs,hF⟩
 | yield hr=>
   show SR P (NR F) ρ (Instr.yield _ (#[] ++ a)) (Instr.yield _ (#[] ++ a'))
   rw[Array.empty_append,Array.empty_append]
   refine SR.imp (fun ρ1 n n' h=>?_) hi (D7 hi hr ha)
   cases n <;> first|exact h.elim|exact h
 | nilFunc=>exact aR (e:=.nilDeref) zs zs
 | _=>exact zT
theorem mN{α:Type}(a:Array α)(h:a.size=1):∃x,a=#[x]:=by
 obtain⟨l⟩:=a
 rcases l with _|⟨x,_|⟨y,l⟩⟩
 ·simp at h
 ·exact⟨x,rfl⟩
 ·simp at h
theorem oS{α:Type}(a:Array α)(h:a.size=2):∃x y,a=#[x,y]:=by
 obtain⟨l⟩:=a
 rcases l with _|⟨x,_|⟨y,_|⟨z,l⟩⟩⟩
 ·simp at h
 ·simp at h
 ·exact⟨x,y,rfl⟩
 ·simp at h
theorem xM(hg:P.globals.size=0){F:FuncId→Prop}(hi:dL ρ){ev ev':Operand→Value}{o:Oper}(hs:Sup P F ev o)(he:∀x∈o.op.operands,VR ρ (ev x) (ev' x)):SR P (NR F) ρ (execOp ev o) (execOp ev' o):=by
 unfold Sup at hs
 unfold execOp
 cases hop:o.op <;> rw[hop] at hs <;> simp only at hs
 all_goals (rw[hop] at he;dsimp only)
 case move x=>exact SR.pure ⟨_,rfl,he x (by simp[Op.operands])⟩
 case assign x=>exact SR.pure ⟨_,rfl,he x (by simp[Op.operands])⟩
 case pick c a b=>
  refine(Kn (he c (by simp[Op.operands]))).aO hi fun ρ1 l1 x=>SR.pure ⟨_,rfl,?_⟩
  cases x
  ·exact(he b (by simp[Op.operands])).mono l1.1
  ·exact(he a (by simp[Op.operands])).mono l1.1
 case alloc t=>exact fq hi (OX hi hs)
 case box t x=>exact fq hi (XT hi t (he x (by simp[Op.operands])))
 case build t ps=>
  have hp:∀x∈ps,VR ρ (ev x.2) (ev' x.2):=fun x hx=>he x.2 (by simp only[Op.operands];simp;exact⟨x.1,by simpa using hx⟩)
  exact fq hi (Pj hi hs (yJ hp) (fun l=>(yJ hp).mono l))
 case buildSlice t n ps=>
  have hp:∀x∈ps,VR ρ (ev x.2) (ev' x.2):=fun x hx=>he x.2 (by simp only[Op.operands];simp;exact⟨x.1,by simpa using hx⟩)
  exact fq hi (xG hi hs n (fun l=>(yJ hp).mono l))
 case convert s d x=>exact fq hi (Hf hs (he x (by simp[Op.operands])))
 case makeInterface t x=>exact fq hi (sK t (he x (by simp[Op.operands])))
 case load t a=>exact fq hi (Lx hi t (he a (by simp[Op.operands])))
 case store t a v=>exact bu hi (Jp hi t (he a (by simp[Op.operands])) (he v (by simp[Op.operands])))
 case binOp op t x y u=>
  have hx:=he x (by simp[Op.operands])
  have hy:=he y (by simp[Op.operands])
  refine fq hi ?_
  cases ho:bI op with
  | true=>
    rw[iW ho,iW ho]
    exact Pg hg hi op ho t hx hy
  | false=>
    rw[ho] at hs
    have hT:Ej P t:=by rcases hs with h|h;cases h;exact h
    exact(H6 hT hi op x y hx hy).aO hi fun ρ1 l1 _=>Pf hg hT l1.2 op ho (hx.mono l1.1) (hy.mono l1.1)
 case unOp op t x=>subst hs;exact fq hi (Rz (he x (by simp[Op.operands])))
 case makeFunc fn a b=>
  refine fq hi (SR.pure ?_)
  have h1:=Fb (ρ:=ρ) (ev:=ev) (ev':=ev') (xs:=a) fun x hx=>he x (by simp[Op.operands,hx])
  have h2:=Fb (ρ:=ρ) (ev:=ev) (ev':=ev') (xs:=b) fun x hx=>he x (by simp[Op.operands,hx])
  obtain⟨g,rfl⟩:=hs
  exact .func g h1.1 h1.2 h2.1 h2.2
 case slice t x a b c=>
  exact fq hi (Jf hi t (he x (by simp[Op.operands])) (Ma fun y hy=>he y (by cases hy;simp[Op.operands])) (Ma fun y hy=>he y (by cases hy;simp[Op.operands])) (Ma fun y hy=>he y (by cases hy;simp[Op.operands])))
 case fieldAddr t x i=>exact fq hi (Ib hi t (he x (by simp[Op.operands])) i)
 case field t x i=>exact fq hi (PW hi t (he x (by simp[Op.operands])) i)
 case indexAddr t x i=>exact fq hi (Iw hi t (he x (by simp[Op.operands])) (he i (by simp[Op.operands])))
 case index t x i=>exact fq hi (Qa hi t (he x (by simp[Op.operands])) (he i (by simp[Op.operands])))
 case extract x i=>exact fq hi (H9 (he x (by simp[Op.operands])) i)
 case call c=>
  have hargs:dX ρ (c.args.map ev) (c.args.map ev'):=Fb fun x hx=>he x (by simp only[Op.operands,Call.operands];exact Array.mem_append.2 (.inr hx))
  unfold resolve
  cases hc:c.callee with
  | invoke r n=>rw[hc] at hs;exact hs.elim
  | value f=>
    rw[hc] at hs
    have hf:=he f (by simp[Op.operands,Call.operands,hc])
    exact CJ hi hs hf hargs
  | builtin b=>
    rw[hc] at hs
    rcases hs with⟨rfl,h1⟩|rfl|⟨rfl,h1,hT⟩
    ·obtain⟨x,hx⟩:∃x,c.args=#[x]:=mN _ h1
     have hv:=he x (by simp[Op.operands,Call.operands,hx])
     have e:∀f:Operand→Value,Array.map f c.args=#[f x]:=fun f=>by rw[hx];simp
     have:=fq (F:=F) hi (YJ (P:=P) hi c.argTypes o.type hv)
     rw[← e ev,← e ev'] at this
     exact this
    ·exact fq hi (YN hi c.argTypes o.type hargs)
    ·obtain⟨x,y,hx⟩:∃x y,c.args=#[x,y]:=oS _ h1
     have hv:=he x (by simp[Op.operands,Call.operands,hx])
     have hw:=he y (by simp[Op.operands,Call.operands,hx])
     have e:∀f:Operand→Value,Array.map f c.args=#[f x,f y]:=fun f=>by rw[hx];simp
     have:=fq (F:=F) hi (Km (P:=P) hi c.argTypes o.type hT hv hw)
     rw[← e ev,← e ev'] at this
     exact this
end
end Go.cu
