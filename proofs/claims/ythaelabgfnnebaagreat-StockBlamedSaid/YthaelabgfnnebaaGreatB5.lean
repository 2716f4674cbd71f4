/- Str Par -/
import Derived.Test.YthaelabgfnnebaaGreatA0
import Derived.Calls
set_option maxRecDepth 100000
set_option maxHeartbeats 16000000
set_option linter.unusedVariables false
set_option linter.unusedSectionVars false
namespace Go
def ES(l:List Nat):String:=String.ofList (l.map Char.ofNat)
def sQ1:String:=ES [108,111,97,100,58,32,110,111,32,115,117,99,104,32,99,101,108,108]
def sQ2:String:=ES [115,116,111,114,101,58,32,110,111,32,115,117,99,104,32,99,101,108,108]
def sQ3:String:=ES [117,110,119,105,110,100,58,32,116,104,101,32,102,114,97,109,101,32,105,115,32,114,117,110,110,105,110,103]
def tj:String:=ES [101,120,105,116,44,32,103,111,116,111,58,32,110,111,32,115,117,99,104,32,98,108,111,99,107,32,111,114,32,108,97,98,101,108]
def ZL:String:=ES [114,97,110,103,101,32,111,118,101,114,32,97,32,102,117,110,99,116,105,111,110,58,32,110,111,32,115,117,99,104,32,108,111,111,112]
def lk:String:=ES [98,101,103,105,110,82,111,117,110,100,58,32,110,111,32,114,111,117,110,100]
def sQ7:String:=ES [114,101,116,117,114,110,58,32,116,104,101,32,114,101,115,117,108,116,32,118,97,114,105,97,98,108,101,115,32,99,97,110,110,111,116,32,98,101,32,114,101,97,100]
def sQ8:String:=ES [78,101,120,116,58,32,110,111,32,115,117,99,104,32,99,97,110,100,105,100,97,116,101]
def Up:String:=ES [98,117,105,108,100,83,108,105,99,101,58,32,97,32,112,97,114,116,32,111,102,32,116,104,101,32,119,114,111,110,103,32,115,105,122,101]
def ta:String:=ES [103,114,111,119,115,108,105,99,101,58,32,108,101,110,32,111,117,116,32,111,102,32,114,97,110,103,101]
def te:String:=ES [97,112,112,101,110,100,58,32,97,32,115,108,105,99,101,32,111,114,32,97,32,115,116,114,105,110,103,32,119,104,111,115,101,32,98,121,116,101,115,32,110,111,32,109,101,109,111,114,121,32,98,101,97,114,115]
def Kx:String:=ES [97,110,111,116,104,101,114,32,101,110,100,32,111,102,32,97,110,32,105,116,101,114,97,116,111,114,39,115,32,99,97,108,108]
def KB:String:=ES [99,111,110,100,58,32,98,111,111,108,32,101,120,112,101,99,116,101,100]
def Xy:String:=ES [97,32,118,97,108,117,101,32,111,102,32,109,111,114,101,32,116,104,97,110,32,50,94,50,50,32,99,101,108,108,115]
def Lk:String:=ES [111,112,47,105,110,100,101,120,65,100,100,114,46,97,110,32,105,110,100,101,120,32,111,117,116,32,111,102,32,114,97,110,103,101,32,97,116,32,97,110,32,97,114,114,97,121,32,111,102,32,108,101,110,103,116,104,32,48,32,111,114,32,49,32,40,108,101,100,103,101,114,32,54,49,54,41]
def tf:String:=ES [98,105,110,111,112,47,101,113,108,58,32,116,119,111,32,110,105,108,32,118,97,108,117,101,115,32,111,102,32,97,110,32,105,110,116,101,114,102,97,99,101,32,116,121,112,101,32,119,105,116,104,32,109,101,116,104,111,100,115,44,32,110,101,105,116,104,101,114,32,111,102,32,116,104,101,109,32,116,104,101,32,108,105,116,101,114,97,108,32,110,105,108]
def Eo:String:=ES [110,101,119,115,46,103,111,58,52,56]
def th:String:=ES [108,105,115,116,115,46,103,111,58,55,50]
end Go
namespace Go.cu
section
abbrev Ren:=Nat→Option Nat
def Le(ρ ρ':Ren):Prop:=∀b b',ρ b=some b'→ρ' b=some b'
theorem Le.refl(ρ:Ren):Le ρ ρ:=fun _ _ h=>h
theorem Le.trans{a b c:Ren}(h:Le a b)(k:Le b c):Le a c:=fun _ _ e=>k _ _ (h _ _ e)
def dL(ρ:Ren):Prop:=∀a b c,ρ a=some c→ρ b=some c→a=b
def Ext(ρ ρ':Ren):Prop:=Le ρ ρ'∧dL ρ'
theorem Ext.refl{ρ:Ren}(h:dL ρ):Ext ρ ρ:=⟨.refl ρ,h⟩
theorem Ext.trans{a b c:Ren}(h:Ext a b)(k:Ext b c):Ext a c:=⟨h.1.trans k.1,k.2⟩
theorem Ext.of{a b c:Ren}(h:Le a b)(k:Ext b c):Ext a c:=⟨h.trans k.1,k.2⟩
def AR(ρ:Ren)(a a':Addr):Prop:=ρ a.block=some a'.block∧a'.off=a.off∧a'.spot=a.spot
theorem AR.mono{ρ ρ':Ren}(l:Le ρ ρ'){a a':Addr}(h:AR ρ a a'):AR ρ' a a':=⟨l _ _ h.1,h.2⟩
inductive VR (ρ:Ren):Value→Value→Prop
 | bool (b:Bool):VR ρ (.bool b) (.bool b)
 | int (k:IntKind) (n:Int):VR ρ (.int k n) (.int k n)
 | float (k:FloatKind) (n:Nat):VR ρ (.float k n) (.float k n)
 | complex (k:FloatKind) (m n:Nat):VR ρ (.complex k m n) (.complex k m n)
 | string (s:ByteArray):VR ρ (.string s) (.string s)
 | xH:VR ρ (.pointer none) (.pointer none)
 | ptr {a a':Addr}:AR ρ a a'→VR ρ (.pointer (some a)) (.pointer (some a'))
 | xQ (l c:Nat):VR ρ (.slice none l c) (.slice none l c)
 | sl {a a':Addr} (l c:Nat):AR ρ a a'→VR ρ (.slice (some a) l c) (.slice (some a') l c)
 | Xi:VR ρ (.map none) (.map none)
 | map {r r':Nat}:ρ r=some r'→VR ρ (.map (some r)) (.map (some r'))
 | Wi:VR ρ (.chan none) (.chan none)
 | chan {r r':Nat}:ρ r=some r'→VR ρ (.chan (some r)) (.chan (some r'))
 | func (g:FuncId) {x x' y y':Array Value}:x.size=x'.size→(∀ (i:Nat) (h:i<x.size) (h':i<x'.size),VR ρ x[i] x'[i])→y.size=y'.size→(∀ (i:Nat) (h:i<y.size) (h':i<y'.size),VR ρ y[i] y'[i])→
  VR ρ (.func (.func g) x y) (.func (.func g) x' y')
 | yield {l l':Nat}:ρ l=some l'→VR ρ (.func (.yield l) #[] #[]) (.func (.yield l') #[] #[])
 | nilFunc:VR ρ .nilFunc .nilFunc
 | iface (t:TypeId) {v v':Value}:VR ρ v v'→VR ρ (.iface t v) (.iface t v')
 | nilIface:VR ρ .nilIface .nilIface
 | agg {x x':Array Value}:x.size=x'.size→(∀ (i:Nat) (h:i<x.size) (h':i<x'.size),VR ρ x[i] x'[i])→VR ρ (.agg x) (.agg x')
 | tuple {x x':Array Value}:x.size=x'.size→(∀ (i:Nat) (h:i<x.size) (h':i<x'.size),VR ρ x[i] x'[i])→VR ρ (.tuple x) (.tuple x')
def dY(ρ:Ren)(x x':Array Value):Prop:=x.size=x'.size∧∀ (i:Nat) (h:i<x.size) (h':i<x'.size),VR ρ x[i] x'[i]
theorem VR.mono{ρ ρ':Ren}(l:Le ρ ρ'){v v':Value}(h:VR ρ v v'):VR ρ' v v':=by
 induction h with
 | bool b=>exact .bool b
 | int k n=>exact .int k n
 | float k n=>exact .float k n
 | complex k m n=>exact .complex k m n
 | string s=>exact .string s
 | xH=>exact .xH
 | ptr h=>exact .ptr (h.mono l)
 | xQ a c=>exact .xQ a c
 | sl a c h=>exact .sl a c (h.mono l)
 | Xi=>exact .Xi
 | map h=>exact .map (l _ _ h)
 | Wi=>exact .Wi
 | chan h=>exact .chan (l _ _ h)
 | func g e1 _ e2 _ ih1 ih2=>exact .func g e1 ih1 e2 ih2
 | yield h=>exact .yield (l _ _ h)
 | nilFunc=>exact .nilFunc
 | iface t _ ih=>exact .iface t ih
 | nilIface=>exact .nilIface
 | agg e _ ih=>exact .agg e ih
 | tuple e _ ih=>exact .tuple e ih
theorem dY.mono{ρ ρ':Ren}(l:Le ρ ρ'){x x':Array Value}(h:dY ρ x x'):dY ρ' x x':=⟨h.1,fun i a b=>(h.2 i a b).mono l⟩
theorem dY.get?{ρ:Ren}{x x':Array Value}(h:dY ρ x x')(i:Nat):(x[i]? =none∧x'[i]? =none)∨∃v v',x[i]? =some v∧x'[i]? =some v'∧VR ρ v v':=by
 rcases Nat.lt_or_ge i x.size with hi|hi
 ·have hi':i<x'.size:=h.1 ▸ hi
  exact .inr ⟨x[i],x'[i],by simp[hi],by simp[hi'],h.2 i hi hi'⟩
 ·have hi':x'.size≤i:=h.1 ▸ hi
  exact .inl ⟨by simp[hi],by simp[hi']⟩
theorem VR.undef(ρ:Ren):VR ρ undef undef:=.tuple rfl (fun i h=>by simp at h)
theorem dY.getD{ρ:Ren}{x x':Array Value}(h:dY ρ x x')(i:Nat):VR ρ (x.getD i undef) (x'.getD i undef):=by
 rcases h.get? i with⟨a,b⟩|⟨v,v',a,b,c⟩
 ·simp only[Array.getD_eq_getD_getElem?,a,b,Option.getD_none];exact .undef ρ
 ·simp only[Array.getD_eq_getD_getElem?,a,b,Option.getD_some];exact c
theorem dY.nil(ρ:Ren):dY ρ #[] #[]:=⟨rfl,fun i h=>by simp at h⟩
theorem dY.push{ρ:Ren}{x x':Array Value}{v v':Value}(h:dY ρ x x')(hv:VR ρ v v'):dY ρ (x.push v) (x'.push v'):=by
 refine⟨by simp[h.1],fun i a b=>?_⟩
 by_cases hi:i<x.size
 ·have hi':i<x'.size:=h.1 ▸ hi
  rw[Array.getElem_push_lt hi,Array.getElem_push_lt hi'];exact h.2 i hi hi'
 ·have e:i=x.size:=by simp at a;omega
  subst e
  have:x.size=x'.size:=h.1
  simp only[Array.getElem_push_eq]
  have e2:(x'.push v')[x.size]=v':=by simp[this]
  rw[e2];exact hv
theorem dY.set{ρ:Ren}{x x':Array Value}{v v':Value}(h:dY ρ x x')(i:Nat)(hv:VR ρ v v'):dY ρ (x.setIfInBounds i v) (x'.setIfInBounds i v'):=by
 refine⟨by simp[h.1],fun j a b=>?_⟩
 have hj:j<x.size:=by simpa using a
 have hj':j<x'.size:=by simpa using b
 by_cases e:i=j
 ·subst e;simp;exact hv
 ·rw[Array.getElem_setIfInBounds_ne hj e,Array.getElem_setIfInBounds_ne hj' e];exact h.2 j hj hj'
theorem dY.append{ρ:Ren}{x x' y y':Array Value}(h:dY ρ x x')(k:dY ρ y y'):dY ρ (x ++ y) (x' ++ y'):=by
 refine⟨by simp[h.1,k.1],fun i a b=>?_⟩
 have e:=h.1
 by_cases hi:i<x.size
 ·rw[Array.getElem_append_left hi,Array.getElem_append_left zo];exact h.2 i hi zo
 ·rw[Array.getElem_append_right zo,Array.getElem_append_right zo]
  have:=k.2 (i - x.size) (by simp at a;omega) (by simp at b;omega)
  simpa only[e] using this
theorem dY.extract{ρ:Ren}{x x':Array Value}(h:dY ρ x x')(a b:Nat):dY ρ (x.extract a b) (x'.extract a b):=by
 refine⟨by simp[h.1],fun i p q=>?_⟩
 rw[Array.getElem_extract,Array.getElem_extract]
 exact h.2 _ _ _
theorem VR.cells{ρ:Ren}{v v':Value}(h:VR ρ v v'):dY ρ v.cells v'.cells:=by
 have one:∀ {v v':Value},VR ρ v v'→dY ρ #[v] #[v']:=fun hv=>⟨rfl,fun i a b=>by
  have:i=0:=by simp at a;omega
  subst this;exact hv⟩
 cases h with
 | agg e h=>exact⟨e,h⟩
 | _=>first|exact one (by constructor <;> assumption)|exact one (by constructor)
structure C8(ρ:Ren)(e e':MapEntry):Prop where
 key:VR ρ e.key e'.key
 val:VR ρ e.val e'.val
 born:e'.born=e.born
def qX(ρ:Ren)(x x':Array MapEntry):Prop:=x.size=x'.size∧∀ (i:Nat) (h:i<x.size) (h':i<x'.size),C8 ρ x[i] x'[i]
theorem C8.mono{ρ ρ':Ren}(l:Le ρ ρ'){e e':MapEntry}(h:C8 ρ e e'):C8 ρ' e e':=⟨h.key.mono l,h.val.mono l,h.born⟩
theorem qX.mono{ρ ρ':Ren}(l:Le ρ ρ'){x x':Array MapEntry}(h:qX ρ x x'):qX ρ' x x':=⟨h.1,fun i a b=>(h.2 i a b).mono l⟩
structure aV where
 jh:FuncId→Code→Prop
variable[Inhabited aV]
def jh(f:FuncId)(c:Code):Prop:=(default:aV).jh f c
structure Q5(r:Loop):Prop where
 assign:jh r.fn r.assign
 body:jh r.fn r.body
 pending:∀j,r.pending=some j→jh r.fn j
structure uf(ρ:Ren)(r r':Loop):Prop where
 eq:r'={r with tmps:=r'.tmps,defers:=r'.defers }
 tmps:dY ρ r.tmps r'.tmps
 defers:ρ r.defers=some r'.defers
 ok:Q5 r
theorem uf.mono{ρ ρ':Ren}(l:Le ρ ρ'){r r':Loop}(h:uf ρ r r'):uf ρ' r r':=⟨h.eq,h.tmps.mono l,l _ _ h.defers,h.ok⟩
inductive OR (ρ:Ren):Obj→Obj→Prop
 | cells {c c':Array Value} (e:TypeId) {f f':Nat × Nat}:dY ρ c c'→(∀o,f'.1≤o→o<f'.2→f.1≤o∧o<f.2)→OR ρ (.cells c e f) (.cells c' e f')
 | map {x x':Array MapEntry} (k:Nat):qX ρ x x'→OR ρ (.map x k) (.map x' k)
 | number {a a':Addr} (l:Bool):AR ρ a a'→OR ρ (.number a l) (.number a' l)
 | loop {r r':Loop}:uf ρ r r'→OR ρ (.loop r) (.loop r')
 | defs {d:Option (List Deferred)}:(d=none∨d=some [])→OR ρ (.deferred d) (.deferred d)
theorem OR.mono{ρ ρ':Ren}(l:Le ρ ρ'){o o':Obj}(h:OR ρ o o'):OR ρ' o o':=by
 cases h with
 | cells e h f=>exact .cells e (h.mono l) f
 | map k h=>exact .map k (h.mono l)
 | number b h=>exact .number b (h.mono l)
 | loop h=>exact .loop (h.mono l)
 | defs h=>exact .defs h
structure WR(ρ:Ren)(w w':World):Prop where
 obj:∀b b',ρ b=some b'→∃o o',w.heap[b]? =some o∧w'.heap[b']? =some o'∧OR ρ o o'
 inj:dL ρ
def ku(w w':World):Prop:=∀k q,w.tape (w.drawn+k) q=w'.tape (w'.drawn+k) q
def sK:Halt→Prop
 | .goexit| .blocked| .waiting| .unsupported (.initOrder _)=>False
 | _=>True
def Dead{α:Type}:Sem α→Prop
 | .halt h=>sK h
 | .shape _ k=>∀x,Dead (k x)
 | .frozen _ k=>∀x,Dead (k x)
 | .choose _ k=>∀x,Dead (k x)
 | .mark _ k=>Dead k
 | _=>False
theorem Dead.bind{α β:Type}{s:Sem α}(f:α→Sem β)(h:Dead s):Dead (s.bind f):=by
 induction s with
 | shape r k ih=>exact fun x=>ih x (h x)
 | frozen r k ih=>exact fun x=>ih x (h x)
 | choose r k ih=>exact fun x=>ih x (h x)
 | mark m k ih=>exact ih h
 | halt e=>exact h
 | _=>exact h.elim
def SR(P:Program){α β:Type}(Q:Ren→α→β→Prop):Ren→Sem α→Sem β→Prop
 | ρ,.pure a,s'=>∃b,s'=.pure b∧Q ρ a b
 | ρ,.load m a k,s'=>∃a' k',s'=.load m a' k'∧m=.plain∧AR ρ a a'∧∀ρ',Ext ρ ρ'→∀v v',VR ρ' v v'→SR P Q ρ' (k v) (k' v')
 | ρ,.store m a v k,s'=>∃a' v' k',s'=.store m a' v' k'∧m=.plain∧AR ρ a a'∧VR ρ v v'∧SR P Q ρ k k'
 | ρ,.new o k,s'=>∃o' k',s'=.new o' k'∧OR ρ o o'∧∀ρ',Ext ρ ρ'→∀r r',ρ' r=some r'→SR P Q ρ' (k r) (k' r')
 | ρ,.shape r k,s'=>∃r' k',s'=.shape r' k'∧ρ r=some r'∧∀x,SR P Q ρ (k x) (k' x)
 | ρ,.getObj r k,s'=>∃r' k',s'=.getObj r' k'∧ρ r=some r'∧∀ρ',Ext ρ ρ'→∀o o',OR ρ' o o'→SR P Q ρ' (k o) (k' o')
 | ρ,.setObj r o k,s'=>∃r' o' k',s'=.setObj r' o' k'∧ρ r=some r'∧OR ρ o o'∧SR P Q ρ k k'
 | ρ,.choose q k,s'=>∃k',s'=.choose q k'∧∀n,SR P Q ρ (k n) (k' n)
 | ρ,.program k,s'=>∃k',s'=.program k'∧SR P Q ρ (k P) (k' P)
 | _,.halt h,_=>sK h
 | _,.frozen _ k,_=>∀x,Dead (k x)
 | ρ,.mark m k,s'=>∃k',s'=.mark m k'∧m=.noRoom∧SR P Q ρ k k'
 | _,.freeze ..,_|_,.sys ..,_=>False
def nh{α β:Type}(Q:Ren→α→β→Prop):Prop:=∀ρ ρ',Le ρ ρ'→∀a b,Q ρ a b→Q ρ' a b
theorem SR.mono{P:Program}{α β:Type}{Q:Ren→α→β→Prop}(hQ:nh Q){s:Sem α}:∀ {ρ ρ':Ren} {s':Sem β},Le ρ ρ'→SR P Q ρ s s'→SR P Q ρ' s s':=by
 induction s with
 | pure a=>rintro ρ ρ' s' l ⟨b,e,h⟩;exact⟨b,e,hQ _ _ l _ _ h⟩
 | load m a k ih=>rintro ρ ρ' s' l ⟨a',k',e,hm,h,hk⟩;exact⟨a',k',e,hm,h.mono l,fun ρ2 l2=>hk ρ2 (.of l l2)⟩
 | store m a v k ih=>rintro ρ ρ' s' l ⟨a',v',k',e,hm,h,hv,hk⟩;exact⟨a',v',k',e,hm,h.mono l,hv.mono l,ih l hk⟩
 | new o k ih=>rintro ρ ρ' s' l ⟨o',k',e,h,hk⟩;exact⟨o',k',e,h.mono l,fun ρ2 l2=>hk ρ2 (.of l l2)⟩
 | shape r k ih=>rintro ρ ρ' s' l ⟨r',k',e,h,hk⟩;exact⟨r',k',e,l _ _ h,fun x=>ih x l (hk x)⟩
 | getObj r k ih=>rintro ρ ρ' s' l ⟨r',k',e,h,hk⟩;exact⟨r',k',e,l _ _ h,fun ρ2 l2=>hk ρ2 (.of l l2)⟩
 | setObj r o k ih=>rintro ρ ρ' s' l ⟨r',o',k',e,h,ho,hk⟩;exact⟨r',o',k',e,l _ _ h,ho.mono l,ih l hk⟩
 | choose q k ih=>rintro ρ ρ' s' l ⟨k',e,hk⟩;exact⟨k',e,fun n=>ih n l (hk n)⟩
 | program k ih=>rintro ρ ρ' s' l ⟨k',e,hk⟩;exact⟨k',e,ih P l hk⟩
 | halt h=>intros;assumption
 | freeze a n k ih=>intro ρ ρ' s' l h;exact h.elim
 | frozen a k ih=>intro ρ ρ' s' l h;exact h
 | sys c k ih=>intro ρ ρ' s' l h;exact h.elim
 | mark m k ih=>rintro ρ ρ' s' l ⟨k',e,hm,hk⟩;exact⟨k',e,hm,ih l hk⟩
theorem SR.bind{P:Program}{α β γ δ:Type}{Q:Ren→α→β→Prop}{R:Ren→γ→δ→Prop}{s:Sem α}{f:α→Sem γ}{f':β→Sem δ}:
 ∀ {ρ:Ren} {s':Sem β},dL ρ→SR P Q ρ s s'→(∀ρ',Ext ρ ρ'→∀a b,Q ρ' a b→SR P R ρ' (f a) (f' b))→SR P R ρ (s.bind f) (s'.bind f'):=by
 induction s with
 | pure a=>rintro ρ s' hi ⟨b,rfl,h⟩ hf;exact hf ρ (.refl hi) a b h
 | load m a k ih=>rintro ρ s' hi ⟨a',k',rfl,hm,h,hk⟩ hf;exact⟨a',_,rfl,hm,h,fun ρ2 l2 v v' hv=>ih v l2.2 (hk ρ2 l2 v v' hv) fun ρ3 l3=>hf ρ3 (l2.trans l3)⟩
 | store m a v k ih=>rintro ρ s' hi ⟨a',v',k',rfl,hm,h,hv,hk⟩ hf;exact⟨a',v',_,rfl,hm,h,hv,ih hi hk hf⟩
 | new o k ih=>rintro ρ s' hi ⟨o',k',rfl,h,hk⟩ hf;exact⟨o',_,rfl,h,fun ρ2 l2 r r' hr=>ih r l2.2 (hk ρ2 l2 r r' hr) fun ρ3 l3=>hf ρ3 (l2.trans l3)⟩
 | shape r k ih=>rintro ρ s' hi ⟨r',k',rfl,h,hk⟩ hf;exact⟨r',_,rfl,h,fun x=>ih x hi (hk x) hf⟩
 | getObj r k ih=>rintro ρ s' hi ⟨r',k',rfl,h,hk⟩ hf;exact⟨r',_,rfl,h,fun ρ2 l2 o o' ho=>ih o l2.2 (hk ρ2 l2 o o' ho) fun ρ3 l3=>hf ρ3 (l2.trans l3)⟩
 | setObj r o k ih=>rintro ρ s' hi ⟨r',o',k',rfl,h,ho,hk⟩ hf;exact⟨r',o',_,rfl,h,ho,ih hi hk hf⟩
 | choose q k ih=>rintro ρ s' hi ⟨k',rfl,hk⟩ hf;exact⟨_,rfl,fun n=>ih n hi (hk n) hf⟩
 | program k ih=>rintro ρ s' hi ⟨k',rfl,hk⟩ hf;exact⟨_,rfl,ih P hi hk hf⟩
 | halt h=>intros;assumption
 | freeze a n k ih=>intro ρ s' _ h;exact h.elim
 | frozen a k ih=>intro ρ s' _ h _;exact fun x=>(h x).bind f
 | sys c k ih=>intro ρ s' _ h;exact h.elim
 | mark m k ih=>rintro ρ s' hi ⟨k',rfl,hm,hk⟩ hf;exact⟨_,rfl,hm,ih hi hk hf⟩
theorem SR.bind'{P:Program}{α β γ δ:Type}{Q:Ren→α→β→Prop}{R:Ren→γ→δ→Prop}{s:Sem α}{f:α→Sem γ}{f':β→Sem δ}{ρ:Ren}{s':Sem β}(hi:dL ρ)
 (h:SR P Q ρ s s')(hf:∀ρ',Ext ρ ρ'→∀a b,Q ρ' a b→SR P R ρ' (f a) (f' b)):SR P R ρ (s >>= f) (s' >>= f'):=h.bind hi hf
theorem SR.pure{P:Program}{α β:Type}{Q:Ren→α→β→Prop}{ρ:Ren}{a:α}{b:β}(h:Q ρ a b):SR P Q ρ (Pure.pure a) (Pure.pure b):=⟨b,rfl,h⟩
theorem SR.imp{P:Program}{α β:Type}{Q Q':Ren→α→β→Prop}(hq:∀ρ a b,Q ρ a b→Q' ρ a b){s:Sem α}{s':Sem β}{ρ:Ren}(hi:dL ρ)(h:SR P Q ρ s s'):SR P Q' ρ s s':=by
 have:=h.bind hi (f:=Sem.pure) (f':=Sem.pure) (R:=Q') fun ρ' _ a b q=>⟨b,rfl,hq ρ' a b q⟩
 have e:∀ {γ:Type} (t:Sem γ),t.bind Sem.pure=t:=by
  intro γ t
  induction t <;> simp[Sem.bind, *]
 rwa[e,e] at this
end
end Go.cu
